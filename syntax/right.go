package syntax

import (
	"kindling/api"
	"kindling/lex"
)

// Right tells whether Read could tell these declarations.
func Right(l []api.Decl) bool {
	for _, d := range l {
		if !rightDecl(d) {
			return false
		}
	}
	return true
}

// is tells whether a text is that of a token of a kind.
func is(kind int, text string) bool { return lex.Right(api.Token{Kind: kind, Text: text}) }

// filled tells which parts of a declaration are not empty.
func filled(d api.Decl) [5]bool {
	p, e, a, c := d.Pat, d.Expr, d.Data, d.Con
	return [5]bool{
		p.Kind != 0 || p.Num != 0 || p.Name != "" || len(p.L) > 0,
		e.Kind != 0 || e.Num != 0 || e.Name != "" || len(e.L)+len(e.Pats)+len(e.Decls) > 0,
		len(d.Funs) > 0,
		a.Name != "" || len(a.Vars)+len(a.Cons) > 0,
		c.Name != "" || len(c.Arg) > 0,
	}
}

func rightDecl(d api.Decl) bool {
	switch d.Kind {
	case api.DVal:
		return filled(d) == [5]bool{0: true, 1: true} && rightPat(d.Pat) && rightExpr(d.Expr)
	case api.DFun:
		return filled(d) == [5]bool{2: true} && rightFuns(d.Funs)
	case api.DData:
		return filled(d) == [5]bool{3: true} && rightData(d.Data)
	case api.DExn:
		return filled(d) == [5]bool{4: true} && rightCon(d.Con)
	case api.DExpr:
		return filled(d) == [5]bool{1: true} && rightExpr(d.Expr)
	}
	return false
}

func rightFuns(l []api.Fun) bool {
	for _, f := range l {
		if !is(api.TName, f.Name) || len(f.Pats) == 0 || !rightPats(f.Pats) || !rightExpr(f.Body) {
			return false
		}
	}
	return true
}

func rightData(d api.Data) bool {
	for _, v := range d.Vars {
		if !is(api.TVar, v) {
			return false
		}
	}
	for _, c := range d.Cons {
		if !rightCon(c) {
			return false
		}
	}
	return is(api.TName, d.Name) && len(d.Cons) > 0
}

func rightCon(c api.Con) bool {
	return is(api.TCap, c.Name) && len(c.Arg) <= 1 && rightTys(c.Arg)
}

func rightExpr(e api.Expr) bool {
	if !fits(e) {
		return false
	}
	for _, part := range e.L {
		if !rightExpr(part) {
			return false
		}
	}
	for _, d := range e.Decls {
		if d.Kind != api.DVal && d.Kind != api.DFun {
			return false
		}
	}
	return rightPats(e.Pats) && Right(e.Decls)
}

// fits tells whether an expression has what its kind names, and nothing else.
func fits(e api.Expr) bool {
	parts, arms := len(e.L), len(e.Pats)
	if e.Kind != api.EInt && e.Num != 0 || e.Kind != api.ELet && len(e.Decls) > 0 {
		return false
	}
	switch e.Kind {
	case api.EFn:
		return e.Name == "" && arms > 0 && parts == arms
	case api.ECase, api.EHandle:
		return e.Name == "" && arms > 0 && parts == arms+1
	}
	if arms > 0 {
		return false
	}
	switch e.Kind {
	case api.EInt:
		return parts == 0 && e.Name == "" && 0 <= e.Num && e.Num <= api.MaxInt
	case api.EText:
		return parts == 0
	case api.EVar:
		return parts == 0 && is(api.TName, e.Name)
	case api.ECon:
		return parts == 0 && is(api.TCap, e.Name)
	case api.EBin:
		return parts == 2 && levelOf(e.Name) >= 0
	case api.EUn:
		return parts == 1 && isPrefix(e.Name)
	}
	return e.Name == "" && counts(e.Kind, parts)
}

// counts tells whether an expression of a kind without a name and arms has so many parts.
func counts(kind, parts int) bool {
	switch kind {
	case api.ETuple:
		return parts != 1
	case api.EApp:
		return parts == 2
	case api.EIf:
		return parts == 3
	case api.ELet, api.ERaise:
		return parts == 1
	case api.ESeq:
		return parts >= 2
	}
	return false
}

func rightPats(l []api.Pat) bool {
	for _, p := range l {
		if !rightPat(p) {
			return false
		}
	}
	return true
}

func rightPat(p api.Pat) bool {
	parts := len(p.L)
	if p.Kind != api.PInt && p.Num != 0 {
		return false
	}
	switch p.Kind {
	case api.PWild:
		return parts == 0 && p.Name == ""
	case api.PVar:
		return parts == 0 && is(api.TName, p.Name)
	case api.PInt:
		return parts == 0 && p.Name == "" && -api.MaxInt <= p.Num && p.Num <= api.MaxInt
	case api.PText:
		return parts == 0
	case api.PTuple:
		return parts != 1 && p.Name == "" && rightPats(p.L)
	case api.PCon:
		if p.Name == "::" {
			return parts == 1 && p.L[0].Kind == api.PTuple && len(p.L[0].L) == 2 && rightPats(p.L)
		}
		return parts <= 1 && is(api.TCap, p.Name) && rightPats(p.L)
	}
	return false
}

func rightTys(l []api.Ty) bool {
	for _, t := range l {
		if !rightTy(t) {
			return false
		}
	}
	return true
}

func rightTy(t api.Ty) bool {
	switch t.Kind {
	case api.YVar:
		return len(t.L) == 0 && is(api.TVar, t.Name)
	case api.YCon:
		return (is(api.TName, t.Name) || t.Name == "ref") && rightTys(t.L)
	case api.YArrow:
		return len(t.L) == 2 && t.Name == "" && rightTys(t.L)
	case api.YTuple:
		return len(t.L) >= 2 && t.Name == "" && rightTys(t.L)
	}
	return false
}
