// Package syntax is layer 8: it reads tokens as declarations, and writes declarations as text.
package syntax

import (
	"kindling/api"
	"kindling/lex"
)

// level is the operators that bind equally; those of a right level stand to the right.
type level struct {
	names [6]string
	right bool
}

// levels stand in order: each one binds more tightly than the one ahead of it.
var levels = [...]level{
	{names: [6]string{"orelse"}},
	{names: [6]string{"andalso"}},
	{names: [6]string{":="}, right: true},
	{names: [6]string{"=", "<>", "<", "<=", ">", ">="}},
	{names: [6]string{"::"}, right: true},
	{names: [6]string{"+", "-", "^"}},
	{names: [6]string{"*", "div", "mod"}},
}

// prefixes are the words that stand ahead of one operand.
var prefixes = [...]string{"~", "!", "not", "ref", "size", "str", "ord", "itos"}

// levelOf is the number of an operator's level; -1 of another word.
func levelOf(name string) int {
	for i := range len(levels) {
		for _, s := range levels[i].names {
			if s == name && s != "" {
				return i
			}
		}
	}
	return -1
}

// isPrefix tells whether a word stands ahead of one operand.
func isPrefix(name string) bool {
	for _, s := range prefixes {
		if s == name {
			return true
		}
	}
	return false
}

// stray is what the reading is given up with: the place of a token that can not stand behind those ahead of it.
type stray struct{ at int }

// reader reads tokens, of which it has taken so many. Its functions are called as the grammar calls what they read; patom, product and post are a pattern's atom, a type with * and a type with names behind it.
type reader struct {
	tokens []api.Token
	taken  int
}

// Parse reads a text as declarations.
func Parse(text string) ([]api.Decl, int, api.Errno) {
	l, at, e := lex.Scan(text)
	if e != api.OK {
		return nil, at, e
	}
	return Read(l)
}

// Read reads tokens as declarations.
func Read(l []api.Token) (decls []api.Decl, at int, e api.Errno) {
	for _, t := range l {
		if !lex.Right(t) {
			return nil, 0, api.ErrForm
		}
	}
	defer func() {
		if thrown := recover(); thrown != nil {
			s, own := thrown.(stray)
			if !own {
				panic(thrown)
			}
			decls, at, e = nil, s.at, api.ErrSyntax
		}
	}()
	r := &reader{tokens: l}
	decls = r.items()
	if Deep(decls) > api.MaxDeep {
		return nil, 0, api.ErrDeep
	}
	return decls, 0, api.OK
}

// peek is the token at hand; behind the last one a TEnd is thought.
func (r *reader) peek() api.Token {
	if r.taken < len(r.tokens) {
		return r.tokens[r.taken]
	}
	return api.Token{Kind: api.TEnd}
}

// fail gives up at the token at hand.
func (r *reader) fail() { panic(stray{r.peek().At}) }

// sees tells whether the token at hand is a key word or a sign.
func (r *reader) sees(word string) bool {
	t := r.peek()
	return (t.Kind == api.TKey || t.Kind == api.TSign) && t.Text == word
}

// seesKind tells whether the token at hand is of one of some kinds.
func (r *reader) seesKind(kinds ...int) bool {
	for _, k := range kinds {
		if r.peek().Kind == k {
			return true
		}
	}
	return false
}

// take takes a key word or a sign, if it is at hand.
func (r *reader) take(word string) bool {
	if !r.sees(word) {
		return false
	}
	r.taken++
	return true
}

// need takes a key word or a sign that must be at hand.
func (r *reader) need(word string) {
	if !r.take(word) {
		r.fail()
	}
}

// token takes a token that must be of a kind.
func (r *reader) token(kind int) api.Token {
	t := r.peek()
	if t.Kind != kind {
		r.fail()
	}
	r.taken++
	return t
}

// items reads all.
func (r *reader) items() []api.Decl {
	var l []api.Decl
	for !r.seesKind(api.TEnd) {
		l = append(l, r.item())
		r.take(";")
	}
	return l
}

func (r *reader) item() api.Decl {
	switch {
	case r.sees("val") || r.sees("fun"):
		return r.bind()
	case r.take("datatype"):
		return r.data()
	case r.take("exception"):
		return api.Decl{Kind: api.DExn, Con: r.con()}
	}
	return api.Decl{Kind: api.DExpr, Expr: r.exp()}
}

func (r *reader) bind() api.Decl {
	if r.take("val") {
		p := r.pat()
		r.need("=")
		return api.Decl{Kind: api.DVal, Pat: p, Expr: r.exp()}
	}
	r.need("fun")
	d := api.Decl{Kind: api.DFun, Funs: []api.Fun{r.fun()}}
	for r.take("and") {
		d.Funs = append(d.Funs, r.fun())
	}
	return d
}

func (r *reader) fun() api.Fun {
	f := api.Fun{Name: r.token(api.TName).Text, Pats: []api.Pat{r.patom()}}
	for r.seesPatom() {
		f.Pats = append(f.Pats, r.patom())
	}
	r.need("=")
	f.Body = r.exp()
	return f
}

func (r *reader) data() api.Decl {
	d := api.Data{}
	switch {
	case r.seesKind(api.TVar):
		d.Vars = []string{r.token(api.TVar).Text}
	case r.take("("):
		d.Vars = []string{r.token(api.TVar).Text}
		for r.take(",") {
			d.Vars = append(d.Vars, r.token(api.TVar).Text)
		}
		r.need(")")
	}
	d.Name = r.token(api.TName).Text
	r.need("=")
	d.Cons = []api.Con{r.con()}
	for r.take("|") {
		d.Cons = append(d.Cons, r.con())
	}
	return api.Decl{Kind: api.DData, Data: d}
}

func (r *reader) con() api.Con {
	c := api.Con{Name: r.token(api.TCap).Text}
	if r.take("of") {
		c.Arg = []api.Ty{r.ty()}
	}
	return c
}
