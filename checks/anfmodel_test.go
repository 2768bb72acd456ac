package checks

import "kindling/api"

// anfModel runs functions as layer 11 says.
type anfModel struct {
	*clock
	globals map[int]value
	put     []int
	funcs   []api.Func
	calls   int // how many applications are within one another
	deepest int
}

// activation is a function that is being run.
type activation struct {
	locals map[int]value
	arg    value
	with   []value
}

// next is what a function ends with: a value, or an application.
type next struct {
	v, f, x value
	call    bool
}

func (m *anfModel) run() value { return m.start(0, nil, nil) }

// start runs a function; those that end with an application go on in its place.
func (m *anfModel) start(n int, arg value, with []value) value {
	m.calls++
	m.deepest = max(m.deepest, m.calls)
	defer func() { m.calls-- }()
	a := &activation{map[int]value{}, arg, with}
	end := m.block(m.funcs[n].Body, a)
	if !end.call {
		return end.v
	}
	m.calls--
	defer func() { m.calls++ }()
	return apply(end.f, end.x)
}

func (m *anfModel) atom(a api.Atom, at *activation) value {
	switch a.Kind {
	case api.AInt:
		return a.Num
	case api.AText:
		return a.Text
	case api.ALocal:
		return at.locals[a.N]
	case api.AArg:
		return at.arg
	case api.AFree:
		return at.with[a.N]
	}
	return m.globals[a.N]
}

func (m *anfModel) block(b api.Block, at *activation) next {
	for _, s := range b.Steps {
		m.tick()
		m.step(s, at)
	}
	m.tick()
	var l []value
	for _, a := range b.Args {
		l = append(l, m.atom(a, at))
	}
	switch b.End {
	case api.EndCall:
		return next{f: l[0], x: l[1], call: true}
	case api.EndRaise:
		panic(thrown{l[0]})
	case api.EndIf:
		return m.block(b.Blocks[branch(l[0])], at)
	}
	return next{v: l[0]}
}

// branch is the number of the block that a test's value chooses.
func branch(v value) int {
	if intOf(v) == 0 {
		return 1
	}
	return 0
}

func (m *anfModel) step(s api.Step, at *activation) {
	var l []value
	for _, a := range s.Args {
		l = append(l, m.atom(a, at))
	}
	var v value
	switch s.Kind {
	case api.SMove:
		v = l[0]
	case api.SPrim:
		v = prim(m.clock, s.N, l)
	case api.SMake:
		v = &tup{l}
	case api.SClose:
		f := &closure{with: l}
		f.apply = func(x value) value { m.tick(); return m.start(s.N, x, f.with) }
		v = f
	case api.SFill:
		l[0].(*closure).with[s.N] = l[1]
		return
	case api.SField:
		v = fieldOf(l[0], s.N)
	case api.SCall:
		v = apply(l[0], l[1])
	case api.SPut:
		m.globals[s.N] = l[0]
		m.put = append(m.put, s.N)
		return
	case api.SIf:
		v = m.block(s.Blocks[branch(l[0])], at).v
	case api.STry:
		v = m.try(s, at)
	}
	at.locals[s.To] = v
}

func (m *anfModel) try(s api.Step, at *activation) value {
	calls := m.calls
	v, how := outcome(func() value { return m.block(s.Blocks[0], at).v })
	m.calls = calls
	switch how {
	case isStuck:
		panic(stuck{})
	case isLate:
		panic(late{})
	case raised:
		at.locals[s.N] = v
		return m.block(s.Blocks[1], at).v
	}
	return v
}
