package checks

import (
	"slices"

	"kindling/api"
)

// sourceModel works declarations out as layer 10 says of their words, without core expressions.
type sourceModel struct {
	*clock
	top    *scope // the names of what was declared
	makers []api.Maker
}

// scope is the names around an expression.
type scope struct {
	name string
	v    value
	next *scope
}

func (m *sourceModel) maker(name string) api.Maker {
	for _, k := range slices.Backward(m.makers) {
		if k.Name == name {
			return k
		}
	}
	panic("no maker " + name)
}

// decl works a declaration out and tells the values that it makes.
func (m *sourceModel) decl(d api.Decl) []value {
	var l []value
	switch d.Kind {
	case api.DExpr:
		l = []value{m.eval(d.Expr, m.top)}
		m.top = &scope{"it", l[0], m.top}
	case api.DVal, api.DFun:
		s := m.bind(d, m.top)
		for v := s; v != m.top; v = v.next {
			l = append(l, v.v)
		}
		m.top = s
		slices.Reverse(l)
	}
	return l
}

// bind is a scope with the names of a val or a fun.
func (m *sourceModel) bind(d api.Decl, s *scope) *scope {
	if d.Kind == api.DVal {
		v := m.eval(d.Expr, s)
		s, ok := m.match(d.Pat, v, s)
		if !ok {
			throw(api.XBind)
		}
		return s
	}
	for _, f := range d.Funs {
		s = &scope{f.Name, nil, s}
	}
	around := s
	for _, f := range slices.Backward(d.Funs) {
		s.v = m.fun(f, nil, around)
		s = s.next
	}
	return around
}

// fun is a function that has been applied to some of what it takes.
func (m *sourceModel) fun(f api.Fun, has []value, s *scope) value {
	return &closure{apply: func(x value) value {
		m.tick()
		all := append(slices.Clone(has), x)
		if len(all) < len(f.Pats) {
			return m.fun(f, all, s)
		}
		s, ok := m.matchAll(f.Pats, all, s)
		if !ok {
			throw(api.XMatch)
		}
		return m.eval(f.Body, s)
	}}
}

func (m *sourceModel) matchAll(l []api.Pat, vs []value, s *scope) (*scope, bool) {
	ok := true
	for i, p := range l {
		if s, ok = m.match(p, vs[i], s); !ok {
			return nil, false
		}
	}
	return s, true
}

// match is a scope with the names of a pattern, if it holds.
func (m *sourceModel) match(p api.Pat, v value, s *scope) (*scope, bool) {
	switch p.Kind {
	case api.PVar:
		return &scope{p.Name, v, s}, true
	case api.PInt:
		return s, same(m.clock, v, p.Num)
	case api.PText:
		return s, same(m.clock, v, p.Name)
	case api.PTuple:
		var vs []value
		for i := range p.L {
			vs = append(vs, fieldOf(v, i))
		}
		return m.matchAll(p.L, vs, s)
	case api.PCon:
		if tagOf(v) != int64(m.maker(p.Name).Tag) {
			return nil, false
		}
		if len(p.L) > 0 {
			return m.match(p.L[0], fieldOf(v, 1), s)
		}
	}
	return s, true
}

// arms looks for an arm.
func (m *sourceModel) arms(pats []api.Pat, l []api.Expr, v value, s *scope, none value) value {
	for i, p := range pats {
		if s, ok := m.match(p, v, s); ok {
			return m.eval(l[i], s)
		}
	}
	panic(thrown{none})
}

func (m *sourceModel) all(l []api.Expr, s *scope) []value {
	var vs []value
	for _, e := range l {
		vs = append(vs, m.eval(e, s))
	}
	return vs
}

func (m *sourceModel) eval(e api.Expr, s *scope) value {
	m.tick()
	switch e.Kind {
	case api.EInt:
		return e.Num
	case api.EText:
		return e.Name
	case api.EVar:
		for f := s; f != nil; f = f.next {
			if f.name == e.Name {
				return f.v
			}
		}
		panic("no name " + e.Name)
	case api.ECon:
		k := m.maker(e.Name)
		if !k.Has {
			return int64(k.Tag)
		}
		return &closure{apply: func(x value) value { return &tup{[]value{int64(k.Tag), x}} }}
	case api.ETuple:
		if len(e.L) == 0 {
			return int64(0)
		}
		return &tup{m.all(e.L, s)}
	case api.EApp:
		l := m.all(e.L, s)
		return apply(l[0], l[1])
	case api.EFn:
		return &closure{apply: func(x value) value { return m.arms(e.Pats, e.L, x, s, int64(api.XMatch)) }}
	case api.EIf:
		if m.eval(e.L[0], s) == value(int64(1)) {
			return m.eval(e.L[1], s)
		}
		return m.eval(e.L[2], s)
	case api.ECase:
		return m.arms(e.Pats, e.L[1:], m.eval(e.L[0], s), s, int64(api.XMatch))
	case api.ELet:
		for _, d := range e.Decls {
			s = m.bind(d, s)
		}
		return m.eval(e.L[0], s)
	case api.ERaise:
		panic(thrown{m.eval(e.L[0], s)})
	case api.EHandle:
		v, how := outcome(func() value { return m.eval(e.L[0], s) })
		switch how {
		case raised:
			return m.arms(e.Pats, e.L[1:], v, s, v)
		case isLate:
			panic(late{})
		case isStuck:
			panic(stuck{})
		}
		return v
	case api.ESeq:
		l := m.all(e.L, s)
		return l[len(l)-1]
	case api.EBin:
		return m.between(e, s)
	}
	return m.behind(e.Name, m.eval(e.L[0], s))
}

func (m *sourceModel) between(e api.Expr, s *scope) value {
	a := m.eval(e.L[0], s)
	switch e.Name {
	case "andalso", "orelse":
		if (a == value(int64(1))) == (e.Name == "orelse") {
			return a
		}
		return m.eval(e.L[1], s)
	}
	b := m.eval(e.L[1], s)
	ops := map[string]int{"+": api.OpAdd, "-": api.OpSub, "*": api.OpMul, "div": api.OpDiv, "mod": api.OpMod, "^": api.OpJoin, "<": api.OpLess, "<=": api.OpAtMost, "=": api.OpSame, ":=": api.OpAssign}
	switch e.Name {
	case ">":
		return prim(m.clock, api.OpLess, []value{b, a})
	case ">=":
		return prim(m.clock, api.OpAtMost, []value{b, a})
	case "<>":
		return truth(!same(m.clock, a, b))
	case "::":
		return &tup{[]value{int64(1), &tup{[]value{a, b}}}}
	}
	return prim(m.clock, ops[e.Name], []value{a, b})
}

func (m *sourceModel) behind(name string, v value) value {
	ops := map[string]int{"~": api.OpNeg, "ref": api.OpRef, "size": api.OpSize, "str": api.OpStr, "itos": api.OpDigits}
	switch name {
	case "not":
		return truth(v == value(int64(0)))
	case "!":
		return fieldOf(v, 0)
	case "ord":
		return prim(m.clock, api.OpOrd, []value{fieldOf(v, 0), fieldOf(v, 1)})
	}
	return prim(m.clock, ops[name], []value{v})
}
