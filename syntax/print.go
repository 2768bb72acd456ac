package syntax

import (
	"kindling/api"
	"kindling/lex"
)

// writer writes declarations as tokens.
type writer struct {
	tokens []api.Token
}

// Print is declarations as text.
func Print(l []api.Decl) (string, api.Errno) {
	if !Right(l) {
		return "", api.ErrForm
	}
	w := &writer{}
	w.decls(l)
	return lex.Print(w.tokens)
}

func (w *writer) token(kind int, text string) {
	w.tokens = append(w.tokens, api.Token{Kind: kind, Text: text})
}

// words writes key words and signs.
func (w *writer) words(l ...string) {
	for _, s := range l {
		if is(api.TKey, s) {
			w.token(api.TKey, s)
		} else {
			w.token(api.TSign, s)
		}
	}
}

func (w *writer) number(n int64) {
	if n < 0 {
		w.words("~")
		n = -n
	}
	w.tokens = append(w.tokens, api.Token{Kind: api.TInt, Num: n})
}

// list writes so many parts with a word between any two.
func (w *writer) list(parts int, between string, part func(i int)) {
	for i := range parts {
		if i > 0 {
			w.words(between)
		}
		part(i)
	}
}

// bracketed writes something in brackets, if it is to be.
func (w *writer) bracketed(brackets bool, part func()) {
	if !brackets {
		part()
		return
	}
	w.words("(")
	part()
	w.words(")")
}

// decls writes each declaration and a sign behind it.
func (w *writer) decls(l []api.Decl) {
	for _, d := range l {
		w.decl(d)
		w.words(";")
	}
}

func (w *writer) decl(d api.Decl) {
	switch d.Kind {
	case api.DVal:
		w.words("val")
		w.pat(d.Pat)
		w.words("=")
		w.expr(d.Expr)
	case api.DFun:
		w.words("fun")
		w.list(len(d.Funs), "and", func(i int) { w.fun(d.Funs[i]) })
	case api.DData:
		w.words("datatype")
		w.bracketed(len(d.Data.Vars) > 1, func() {
			w.list(len(d.Data.Vars), ",", func(i int) { w.token(api.TVar, d.Data.Vars[i]) })
		})
		w.token(api.TName, d.Data.Name)
		w.words("=")
		w.list(len(d.Data.Cons), "|", func(i int) { w.con(d.Data.Cons[i]) })
	case api.DExn:
		w.words("exception")
		w.con(d.Con)
	case api.DExpr:
		w.expr(d.Expr)
	}
}

func (w *writer) fun(f api.Fun) {
	w.token(api.TName, f.Name)
	for _, p := range f.Pats {
		w.patAtom(p)
	}
	w.words("=")
	w.expr(f.Body)
}

func (w *writer) con(c api.Con) {
	w.token(api.TCap, c.Name)
	for _, t := range c.Arg {
		w.words("of")
		w.ty(t)
	}
}

func isAtom(e api.Expr) bool {
	switch e.Kind {
	case api.EInt, api.EText, api.EVar, api.ECon, api.ETuple, api.ESeq, api.ELet:
		return true
	}
	return false
}

// atom writes an expression, in brackets if it is no atom.
func (w *writer) atom(e api.Expr) {
	w.bracketed(!isAtom(e), func() { w.expr(e) })
}

func (w *writer) expr(e api.Expr) {
	switch e.Kind {
	case api.EInt:
		w.number(e.Num)
	case api.EText:
		w.token(api.TText, e.Name)
	case api.EVar:
		w.token(api.TName, e.Name)
	case api.ECon:
		w.token(api.TCap, e.Name)
	case api.ETuple:
		w.bracketed(true, func() { w.atoms(e.L, ",") })
	case api.ESeq:
		w.bracketed(true, func() { w.atoms(e.L, ";") })
	case api.EApp:
		w.atom(e.L[0])
		w.atom(e.L[1])
	case api.EBin:
		w.atoms(e.L, e.Name)
	case api.EUn:
		w.words(e.Name)
		w.atom(e.L[0])
	case api.ELet:
		w.let(e)
	default:
		w.long(e)
	}
}

// atoms writes expressions with a word between any two.
func (w *writer) atoms(l []api.Expr, between string) {
	w.list(len(l), between, func(i int) { w.atom(l[i]) })
}

// long writes an expression that begins with a key word and goes on as far as it can.
func (w *writer) long(e api.Expr) {
	switch e.Kind {
	case api.EIf:
		w.words("if")
		w.atom(e.L[0])
		w.words("then")
		w.atom(e.L[1])
		w.words("else")
		w.atom(e.L[2])
	case api.ECase:
		w.words("case")
		w.atom(e.L[0])
		w.words("of")
		w.match(e.Pats, e.L[1:])
	case api.EFn:
		w.words("fn")
		w.match(e.Pats, e.L)
	case api.ERaise:
		w.words("raise")
		w.atom(e.L[0])
	case api.EHandle:
		w.atom(e.L[0])
		w.words("handle")
		w.match(e.Pats, e.L[1:])
	}
}

func (w *writer) match(pats []api.Pat, l []api.Expr) {
	w.list(len(pats), "|", func(i int) {
		w.patAtom(pats[i])
		w.words("=>")
		w.atom(l[i])
	})
}

func (w *writer) let(e api.Expr) {
	w.words("let")
	w.decls(e.Decls)
	w.words("in")
	if e.L[0].Kind == api.ESeq {
		w.atoms(e.L[0].L, ";")
	} else {
		w.atom(e.L[0])
	}
	w.words("end")
}

// patAtom writes a pattern, in brackets if it is no atom.
func (w *writer) patAtom(p api.Pat) {
	w.bracketed(p.Kind == api.PCon && len(p.L) > 0, func() { w.pat(p) })
}

func (w *writer) pat(p api.Pat) {
	switch p.Kind {
	case api.PWild:
		w.words("_")
	case api.PVar:
		w.token(api.TName, p.Name)
	case api.PInt:
		w.number(p.Num)
	case api.PText:
		w.token(api.TText, p.Name)
	case api.PTuple:
		w.bracketed(true, func() { w.patAtoms(p.L, ",") })
	case api.PCon:
		if p.Name == "::" {
			w.patAtoms(p.L[0].L, "::")
			return
		}
		w.token(api.TCap, p.Name)
		for _, part := range p.L {
			w.patAtom(part)
		}
	}
}

// patAtoms writes patterns with a word between any two.
func (w *writer) patAtoms(l []api.Pat, between string) {
	w.list(len(l), between, func(i int) { w.patAtom(l[i]) })
}

// tyAtom writes a type, in brackets if it is no atom.
func (w *writer) tyAtom(t api.Ty) {
	w.bracketed(t.Kind != api.YVar && len(t.L) > 0, func() { w.ty(t) })
}

func (w *writer) ty(t api.Ty) {
	switch t.Kind {
	case api.YVar:
		w.token(api.TVar, t.Name)
	case api.YArrow:
		w.tyAtoms(t.L, "->")
	case api.YTuple:
		w.tyAtoms(t.L, "*")
	case api.YCon:
		w.bracketed(len(t.L) > 1, func() { w.tyAtoms(t.L, ",") })
		if t.Name == "ref" {
			w.words("ref")
		} else {
			w.token(api.TName, t.Name)
		}
	}
}

// tyAtoms writes types with a word between any two.
func (w *writer) tyAtoms(l []api.Ty, between string) {
	w.list(len(l), between, func(i int) { w.tyAtom(l[i]) })
}
