package checks

import "kindling/api"

// coreModel works core expressions out as layer 10 says.
type coreModel struct {
	*clock
	globals map[int]value
	put     []int // the globals that were put, in order
}

// frame is the locals around an expression.
type frame struct {
	n    int
	v    value
	next *frame
}

func (f *frame) find(n int) value {
	for ; f != nil; f = f.next {
		if f.n == n {
			return f.v
		}
	}
	panic(stuck{})
}

func (m *coreModel) all(l []api.Core, f *frame) []value {
	var vs []value
	for _, c := range l {
		vs = append(vs, m.eval(c, f))
	}
	return vs
}

func (m *coreModel) eval(c api.Core, f *frame) value {
	m.tick()
	switch c.Kind {
	case api.CInt:
		return c.Num
	case api.CText:
		return c.Text
	case api.CVar:
		return f.find(c.N)
	case api.CGlobal:
		return m.globals[c.N]
	case api.CTuple:
		return &tup{m.all(c.L, f)}
	case api.CFn:
		return &closure{apply: func(x value) value { return m.eval(c.L[0], &frame{c.N, x, f}) }}
	case api.CFix:
		return m.fix(c, f)
	case api.CApp:
		l := m.all(c.L, f)
		return apply(l[0], l[1])
	case api.CIf:
		if intOf(m.eval(c.L[0], f)) != 0 {
			return m.eval(c.L[1], f)
		}
		return m.eval(c.L[2], f)
	case api.CLet:
		return m.eval(c.L[1], &frame{c.N, m.eval(c.L[0], f), f})
	case api.CField:
		return fieldOf(m.eval(c.L[0], f), c.N)
	case api.CPrim:
		return prim(m.clock, c.N, m.all(c.L, f))
	case api.CRaise:
		panic(thrown{m.eval(c.L[0], f)})
	case api.CTry:
		v, how := outcome(func() value { return m.eval(c.L[0], f) })
		switch how {
		case raised:
			return m.eval(c.L[1], &frame{c.N, v, f})
		case isStuck:
			panic(stuck{})
		case isLate:
			panic(late{})
		}
		return v
	case api.CPut:
		m.globals[c.N] = m.eval(c.L[0], f)
		m.put = append(m.put, c.N)
		return int64(0)
	}
	panic(stuck{})
}

func (m *coreModel) fix(c api.Core, f *frame) value {
	for i := 0; i < len(c.Ns); i += 2 {
		f = &frame{c.Ns[i], nil, f}
	}
	around := f
	for i := len(c.Ns)/2 - 1; i >= 0; i-- {
		f.v = &closure{apply: func(x value) value { return m.eval(c.L[i], &frame{c.Ns[2*i+1], x, around}) }}
		f = f.next
	}
	return m.eval(c.L[len(c.L)-1], around)
}
