package core

import "kindling/api"

func (l *lowering) exprs(es []api.Expr) []api.Core {
	cs := make([]api.Core, 0, len(es))
	for _, e := range es {
		cs = append(cs, l.expr(e))
	}
	return cs
}

// expr is the value of an expression.
func (l *lowering) expr(e api.Expr) api.Core {
	switch e.Kind {
	case api.EInt:
		return integer(e.Num)
	case api.EText:
		return api.Core{Kind: api.CText, Text: e.Name}
	case api.EVar:
		return l.name(e.Name)
	case api.ECon:
		return l.con(l.maker(e.Name))
	case api.ETuple:
		if len(e.L) == 0 {
			return integer(0)
		}
		return tuple(l.exprs(e.L)...)
	case api.EApp:
		return l.apply(e.L[0], e.L[1])
	case api.EFn:
		p := l.fresh()
		return api.Core{Kind: api.CFn, N: p, L: []api.Core{l.arms(e.Pats, e.L, variable(p), raise(integer(api.XMatch)))}}
	case api.EIf:
		return choice(l.expr(e.L[0]), l.expr(e.L[1]), l.expr(e.L[2]))
	case api.ECase:
		return l.with(l.expr(e.L[0]), func(v api.Core) api.Core {
			return l.arms(e.Pats, e.L[1:], v, raise(integer(api.XMatch)))
		})
	case api.ELet:
		return l.let(e.Decls, e.L[0])
	case api.ERaise:
		return raise(l.expr(e.L[0]))
	case api.EHandle:
		x := l.fresh()
		arms := l.arms(e.Pats, e.L[1:], variable(x), raise(variable(x)))
		return api.Core{Kind: api.CTry, N: x, L: []api.Core{l.expr(e.L[0]), arms}}
	case api.ESeq:
		return l.seq(e.L)
	case api.EBin:
		return l.between(e.Name, l.expr(e.L[0]), l.expr(e.L[1]))
	}
	return l.behind(e.Name, e.L[0])
}

// con is a constructor as a value.
func (l *lowering) con(k api.Maker) api.Core {
	if !k.Has {
		return tag(k)
	}
	p := l.fresh()
	return api.Core{Kind: api.CFn, N: p, L: []api.Core{tuple(tag(k), variable(p))}}
}

// apply is an application; that of a constructor makes its tuple at once.
func (l *lowering) apply(f, x api.Expr) api.Core {
	if f.Kind == api.ECon {
		if k := l.maker(f.Name); k.Has {
			return tuple(tag(k), l.expr(x))
		}
	}
	return api.Core{Kind: api.CApp, L: []api.Core{l.expr(f), l.expr(x)}}
}

// let works out declarations, each of which sees those ahead of it, and then an expression.
func (l *lowering) let(decls []api.Decl, in api.Expr) api.Core {
	if len(decls) == 0 {
		return l.expr(in)
	}
	return l.decl(decls[0], func() api.Core { return l.let(decls[1:], in) })
}

func (l *lowering) seq(es []api.Expr) api.Core {
	if len(es) == 1 {
		return l.expr(es[0])
	}
	return l.then(l.expr(es[0]), l.seq(es[1:]))
}

// between is an operator between two.
func (l *lowering) between(name string, a, b api.Core) api.Core {
	switch name {
	case "andalso":
		return choice(a, b, integer(0))
	case "orelse":
		return choice(a, integer(1), b)
	case "<>":
		return choice(prim(api.OpSame, a, b), integer(0), integer(1))
	case ">":
		return l.turned(api.OpLess, a, b)
	case ">=":
		return l.turned(api.OpAtMost, a, b)
	case "::":
		l.maker(name)
		return tuple(integer(consTag), tuple(a, b))
	}
	return prim(operation(name), a, b)
}

// operation is the operation of an operator that is one.
func operation(name string) int {
	switch name {
	case "+":
		return api.OpAdd
	case "-":
		return api.OpSub
	case "*":
		return api.OpMul
	case "div":
		return api.OpDiv
	case "mod":
		return api.OpMod
	case "^":
		return api.OpJoin
	case "<":
		return api.OpLess
	case "<=":
		return api.OpAtMost
	case "=":
		return api.OpSame
	}
	return api.OpAssign
}

// turned is an operation of b and a, where a is worked out first all the same.
func (l *lowering) turned(op int, a, b api.Core) api.Core {
	switch a.Kind {
	case api.CInt, api.CText, api.CGlobal: // what b does changes nothing of these: globals are put last of all
		return prim(op, b, a)
	}
	return l.with(a, func(v api.Core) api.Core { return prim(op, b, v) })
}

// behind is an operand behind a word.
func (l *lowering) behind(name string, e api.Expr) api.Core {
	if name == "ord" && e.Kind == api.ETuple && len(e.L) == 2 {
		return prim(api.OpOrd, l.exprs(e.L)...)
	}
	c := l.expr(e)
	switch name {
	case "~":
		return prim(api.OpNeg, c)
	case "not":
		return choice(c, integer(0), integer(1))
	case "ref":
		return prim(api.OpRef, c)
	case "!":
		return field(0, c)
	case "size":
		return prim(api.OpSize, c)
	case "str":
		return prim(api.OpStr, c)
	case "itos":
		return prim(api.OpDigits, c)
	}
	return l.with(c, func(v api.Core) api.Core { return prim(api.OpOrd, field(0, v), field(1, v)) })
}
