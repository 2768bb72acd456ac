package core

import (
	"slices"

	"kindling/api"
)

// arms looks for an arm of a local's value; where there is none it is none.
func (l *lowering) arms(pats []api.Pat, bodies []api.Expr, v, none api.Core) api.Core {
	c := none
	for i, p := range slices.Backward(pats) {
		c = l.arm([]api.Pat{p}, []api.Core{v}, func() api.Core { return l.expr(bodies[i]) }, c)
	}
	return c
}

// arm is a body, with the variables of patterns of some locals; if one of these does not hold, it is another expression.
func (l *lowering) arm(pats []api.Pat, vs []api.Core, body func() api.Core, other api.Core) api.Core {
	var tests []api.Core
	var names []string
	var bindings []binding
	for i, p := range pats {
		tests = append(tests, l.holds(p, vs[i])...)
		bindings = l.bind(p, vs[i], bindings)
		names = variables(p, names)
	}
	c := body()
	l.shut(names)
	for _, b := range slices.Backward(bindings) {
		c = let(b.n, b.c, c)
	}
	if len(tests) == 0 {
		return c
	}
	return choice(all(tests), c, other)
}

// all is whether all tests hold, each one worked out only if those ahead of it do.
func all(tests []api.Core) api.Core {
	c := tests[len(tests)-1]
	for _, t := range slices.Backward(tests[:len(tests)-1]) {
		c = choice(t, c, integer(0))
	}
	return c
}

// holds are the tests of whether a pattern holds of what an expression is worth; none, if it does anyway.
func (l *lowering) holds(p api.Pat, v api.Core) []api.Core {
	switch p.Kind {
	case api.PInt:
		return []api.Core{prim(api.OpSame, v, integer(p.Num))}
	case api.PText:
		return []api.Core{prim(api.OpSame, v, api.Core{Kind: api.CText, Text: p.Name})}
	case api.PTuple:
		return l.holdAll(p.L, v)
	case api.PCon:
		return l.holdsCon(p, v)
	}
	return nil
}

// holdAll are the tests of whether patterns hold of a tuple's fields.
func (l *lowering) holdAll(pats []api.Pat, v api.Core) []api.Core {
	if v.Kind != api.CVar {
		n := l.fresh()
		return within(n, v, l.holdAll(pats, variable(n)))
	}
	var tests []api.Core
	for i, p := range pats {
		tests = append(tests, l.holds(p, field(i, v))...)
	}
	return tests
}

// holdsCon are the tests of whether a constructor's pattern holds.
func (l *lowering) holdsCon(p api.Pat, v api.Core) []api.Core {
	k := l.maker(p.Name)
	if k.Has != (len(p.L) > 0) {
		l.noKind = true
	}
	if len(p.L) > 0 && v.Kind != api.CVar {
		n := l.fresh()
		return within(n, v, l.holdsCon(p, variable(n)))
	}
	tests := []api.Core{prim(api.OpSame, prim(api.OpTag, v), tag(k))}
	for _, part := range p.L {
		tests = append(tests, l.holds(part, field(1, v))...)
	}
	return tests
}

// within is tests of a local as one test, in which that local is what an expression is worth.
func within(n int, c api.Core, tests []api.Core) []api.Core {
	if len(tests) == 0 {
		return nil
	}
	return []api.Core{let(n, c, all(tests))}
}

// binding is a local, and what it is.
type binding struct {
	n int
	c api.Core
}

// bind makes a pattern's variables known, which holds of what an expression is worth: each is bound behind those ahead of it.
func (l *lowering) bind(p api.Pat, v api.Core, bindings []binding) []binding {
	if p.Kind != api.PVar && len(p.L) == 0 {
		return bindings
	}
	before := len(bindings)
	if v.Kind != api.CVar {
		n := l.fresh()
		bindings = append(bindings, binding{n, v})
		v = variable(n)
	}
	if p.Kind == api.PVar {
		l.open(p.Name, v.N)
		return bindings
	}
	// What a constructor takes is its value's field 1.
	first := 0
	if p.Kind == api.PCon {
		first = 1
	}
	own := len(bindings)
	for i, part := range p.L {
		bindings = l.bind(part, field(first+i, v), bindings)
	}
	if len(bindings) == own { // no variable stands in it
		bindings = bindings[:before]
	}
	return bindings
}
