package syntax

import "kindling/api"

// Deep is how deep declarations are.
func Deep(l []api.Decl) int {
	deep := 0
	for _, d := range l {
		deep = max(deep, 1+deepIn(d))
	}
	return deep
}

// deepIn is how deep the deepest part of a declaration is.
func deepIn(d api.Decl) int {
	deep := 0
	switch d.Kind {
	case api.DVal:
		deep = max(deepPat(d.Pat), deepExpr(d.Expr))
	case api.DFun:
		for _, f := range d.Funs {
			deep = max(deep, deepPats(f.Pats), deepExpr(f.Body))
		}
	case api.DData:
		for _, c := range d.Data.Cons {
			deep = max(deep, deepTys(c.Arg))
		}
	case api.DExn:
		deep = deepTys(d.Con.Arg)
	case api.DExpr:
		deep = deepExpr(d.Expr)
	}
	return deep
}

func deepExpr(e api.Expr) int {
	deep := max(deepPats(e.Pats), Deep(e.Decls))
	for _, part := range e.L {
		deep = max(deep, deepExpr(part))
	}
	return deep + 1
}

func deepPats(l []api.Pat) int {
	deep := 0
	for _, p := range l {
		deep = max(deep, deepPat(p))
	}
	return deep
}

func deepPat(p api.Pat) int { return 1 + deepPats(p.L) }

func deepTys(l []api.Ty) int {
	deep := 0
	for _, t := range l {
		deep = max(deep, 1+deepTys(t.L))
	}
	return deep
}
