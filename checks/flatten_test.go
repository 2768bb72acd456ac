package checks

import (
	"maps"
	"slices"
	"strings"
	"testing"

	"kindling/anf"
	"kindling/api"
	"kindling/core"
)

// cgen makes right core expressions without free locals by chance. Few numbers of locals are used, so that they hide one another.
type cgen struct {
	gen
	locals []int // those that are bound around
	wild   bool  // without a care for what can be worked out
}

func cnode(kind, n int, l ...api.Core) api.Core { return api.Core{Kind: kind, N: n, L: l} }

func cint(n int64) api.Core { return api.Core{Kind: api.CInt, Num: n} }

// within is an expression where more locals are bound.
func (g *cgen) within(deep int, more ...int) api.Core {
	was := g.locals
	g.locals = append(was[:len(was):len(was)], more...)
	c := g.core(deep)
	g.locals = was
	return c
}

// core is an expression; if it is not wild, one that is worth an integer, where all locals are.
func (g *cgen) core(deep int) api.Core {
	if deep <= 0 || g.n(6) == 0 {
		switch {
		case len(g.locals) > 0 && g.n(3) > 0:
			return cnode(api.CVar, g.locals[g.n(len(g.locals))])
		case g.n(4) == 0:
			return cnode(api.CGlobal, g.n(3))
		}
		return cint(int64(g.n(3)))
	}
	deep--
	n, e := g.n(4), func() api.Core { return g.core(deep) }
	switch g.n(13) {
	case 0, 1:
		return cnode(api.CIf, 0, g.test(deep), e(), e())
	case 2, 3:
		return cnode(api.CLet, n, e(), g.within(deep, n))
	case 4:
		return cnode(api.CTry, n, e(), g.within(deep, n))
	case 5:
		return cnode(api.CPut, g.n(3), e())
	case 6:
		if g.n(3) == 0 {
			return cnode(api.CRaise, 0, e())
		}
		return cnode(api.CPrim, []int{api.OpNeg, api.OpTag}[g.n(2)], e())
	case 7:
		return cnode(api.CApp, 0, cnode(api.CFn, n, g.within(deep, n)), e())
	case 8:
		return g.fix(deep)
	case 9:
		size := 1 + g.n(3)
		var l []api.Core
		for range size {
			l = append(l, e())
		}
		return cnode(api.CField, g.n(size), cnode(api.CTuple, 0, l...))
	case 10:
		if g.wild {
			return []api.Core{cnode(api.CTuple, 0, e(), e()), cnode(api.CFn, n, g.within(deep, n)), cnode(api.CApp, 0, e(), e()), cnode(api.CField, g.n(3), e()), {Kind: api.CText, Text: "x"}}[g.n(5)]
		}
	}
	return cnode(api.CPrim, []int{api.OpAdd, api.OpSub, api.OpMul, api.OpDiv, api.OpMod, api.OpLess, api.OpSame}[g.n(7)], e(), e())
}

// test is what a CIf asks: often with ands, ors and nots.
func (g *cgen) test(deep int) api.Core {
	if deep <= 0 {
		return g.core(0)
	}
	a, b := g.test(deep-2), g.test(deep-1)
	switch g.n(4) {
	case 0:
		return cnode(api.CIf, 0, a, b, cint(0))
	case 1:
		return cnode(api.CIf, 0, a, cint(1), b)
	case 2:
		return cnode(api.CIf, 0, a, cint(0), cint(1))
	}
	return g.core(deep)
}

// fix is functions that call one another at most a few times, and an application of one of them.
func (g *cgen) fix(deep int) api.Core {
	count := 1 + g.n(3)
	c := api.Core{Kind: api.CFix}
	for i := range count {
		c.Ns = append(c.Ns, 10+i, g.n(4))
	}
	call := func(x api.Core) api.Core { return cnode(api.CApp, 0, cnode(api.CVar, 10+g.n(count)), x) }
	less := func(p int) api.Core {
		return cnode(api.CPrim, api.OpSub, cnode(api.CVar, p), cint(1))
	}
	for i := range count {
		p := c.Ns[2*i+1]
		again := call(less(p))
		if g.n(2) == 0 {
			again = cnode(api.CPrim, api.OpAdd, again, g.within(deep-1, p))
		}
		c.L = append(c.L, cnode(api.CIf, 0, cnode(api.CPrim, api.OpLess, cint(0), cnode(api.CVar, p)), again, g.within(deep-1, p)))
	}
	c.L = append(c.L, cnode(api.CLet, 3, call(cint(int64(g.n(4)))), g.within(deep, 3)))
	return c
}

// makes is how many functions an expression makes, and one.
func makes(c api.Core) int {
	n := 1
	var count func(api.Core)
	count = func(c api.Core) {
		if c.Kind == api.CFn {
			n++
		}
		if c.Kind == api.CFix {
			n += len(c.Ns) / 2
		}
		for _, p := range c.L {
			count(p)
		}
	}
	count(c)
	return n
}

// named are the globals that functions name.
func named(l []api.Func) []int {
	seen := map[int]int{}
	atoms := func(l []api.Atom) {
		for _, a := range l {
			if a.Kind == api.AGlobal {
				seen[a.N]++
			}
		}
	}
	var block func(api.Block)
	block = func(b api.Block) {
		atoms(b.Args)
		for _, s := range b.Steps {
			if atoms(s.Args); s.Kind == api.SPut {
				seen[s.N]++
			}
			for _, c := range s.Blocks {
				block(c)
			}
		}
		for _, c := range b.Blocks {
			block(c)
		}
	}
	for _, f := range l {
		block(f.Body)
	}
	return slices.Sorted(maps.Keys(seen))
}

// flat takes an expression apart and asks what can be asked of the functions.
func flat(t *testing.T, c api.Core) []api.Func {
	t.Helper()
	l, e := anf.Flatten(c)
	if e != api.OK || !anf.Right(l) {
		t.Fatalf("%s: %d, right %v", core.Text(c), e, anf.Right(l))
	}
	if len(l) != makes(c) { // P11.4
		t.Errorf("%s: %d functions, not %d", core.Text(c), len(l), makes(c))
	}
	for _, n := range named(l) { // P11.5
		if !slices.Contains(core.Globals(c), n) {
			t.Errorf("%s: global %d", core.Text(c), n)
		}
	}
	if !anf.Right(append(l[:len(l):len(l)], l[0])) { // P11.7
		t.Error("one function more behind it")
	}
	return l
}

// someGlobals are what the globals hold ahead of a run.
func someGlobals() map[int]value { return map[int]value{0: int64(10), 1: int64(20), 2: int64(30)} }

// worth asks that the functions of an expression are worth what it is.
func worth(t *testing.T, c api.Core) int {
	t.Helper()
	l := flat(t, c)
	m := &coreModel{clock: &clock{budget}, globals: someGlobals()}
	v, how := outcome(func() value { return m.eval(c, nil) })
	f := &anfModel{clock: &clock{3 * budget}, globals: someGlobals(), funcs: l}
	w, how2 := outcome(f.run)
	if how == isLate || how2 == isLate {
		return isLate
	}
	if how != how2 || !alike(v, w) {
		t.Errorf("%s\n%send %d %v, not %d %v", core.Text(c), anf.Text(l), how2, w, how, v)
	}
	same := slices.Equal(m.put, f.put)
	for n, v := range m.globals {
		same = same && alike(v, f.globals[n])
	}
	if !same {
		t.Errorf("%s\n%sput %v %v, not %v %v", core.Text(c), anf.Text(l), f.put, f.globals, m.put, m.globals)
	}
	return how
}

func TestP11_1_ByChance(t *testing.T) {
	for _, wild := range []bool{false, true} {
		var ended [4]int
		for seed := range uint64(6000) {
			g := &cgen{gen: gen{x: seed}, wild: wild}
			ended[worth(t, g.core(5))]++
			if t.Failed() {
				t.Fatal("seed", seed, wild)
			}
		}
		t.Log(ended)
		if ended[done] < 1000 || ended[raised] < 100 || wild && ended[isStuck] < 100 {
			t.Error("too few", ended)
		}
	}
}

func TestP11_1_Programs(t *testing.T) {
	played := 0
	for seed := range uint64(400) {
		g := &gen{x: seed + 100000}
		p, m := newProgram(), &coreModel{globals: map[int]value{}}
		globals, ticks := map[int]value{}, &clock{}
		texts := append(preludes(), g.items(3, 4)...)
		for _, text := range texts {
			l, made, ok := p.decls(t, text)
			for i := 0; ok && i < len(l); i++ {
				c, nums := p.lower(t, l[i], len(made[i]))
				m.clock, m.put, ticks.left = &clock{budget}, nil, 3*budget
				f := &anfModel{clock: ticks, globals: globals, funcs: flat(t, c)}
				v, how := outcome(func() value { return m.eval(c, nil) })
				w, how2 := outcome(f.run)
				ok = agree(t, text, v, how, w, how2) && how == done
				for _, n := range nums {
					if ok && !alike(m.globals[n], f.globals[n]) {
						t.Errorf("%s: global %d is %v, not %v", text, n, f.globals[n], m.globals[n])
					}
				}
			}
			if !ok {
				break
			}
			played++
		}
		if t.Failed() {
			t.Fatal("seed", seed)
		}
	}
	t.Log(played)
}

func TestP11_1_Expressions(t *testing.T) {
	x, y := cnode(api.CVar, 0), cnode(api.CVar, 1)
	five, ref := cint(5), func(c api.Core) api.Core { return cnode(api.CPrim, api.OpRef, c) }
	put := func(n int, c api.Core) api.Core { return cnode(api.CPut, n, c) }
	raise := func(n int64) api.Core { return cnode(api.CRaise, 0, cint(n)) }
	pair := func(l ...api.Core) api.Core { return cnode(api.CTuple, 0, l...) }
	for _, c := range []api.Core{
		five, {Kind: api.CText, Text: "a\x00"}, cnode(api.CGlobal, 1), put(1, five), pair(five), pair(cnode(api.CGlobal, 1), put(1, five), cnode(api.CGlobal, 1)), cnode(api.CLet, 0, cnode(api.CGlobal, 1), cnode(api.CLet, 1, put(1, five), pair(x, y, cnode(api.CGlobal, 1)))),
		cnode(api.CLet, 0, ref(five), cnode(api.CLet, 1, cnode(api.CPrim, api.OpAssign, x, cint(6)), pair(x, y, cnode(api.CField, 0, x)))), cnode(api.CPrim, api.OpAdd, raise(1), raise(2)), pair(put(0, five), raise(2), put(1, five)), cnode(api.CLet, 0, raise(3), cnode(api.CFn, 1, x)),
		cnode(api.CTry, 0, raise(3), pair(x, x)), cnode(api.CTry, 0, pair(five, cnode(api.CTry, 1, raise(3), cnode(api.CRaise, 0, pair(y)))), pair(x)), cnode(api.CTry, 0, five, raise(1)), cnode(api.CIf, 0, raise(1), five, five), cnode(api.CIf, 0, cint(-3), five, raise(1)), cnode(api.CIf, 0, cint(0), raise(1), five), cnode(api.CIf, 0, pair(five), five, five),
		cnode(api.CApp, 0, cnode(api.CFn, 0, cnode(api.CFn, 1, pair(x, y))), five), cnode(api.CApp, 0, cnode(api.CApp, 0, cnode(api.CFn, 0, cnode(api.CFn, 1, pair(x, y))), five), cint(6)), cnode(api.CApp, 0, five, raise(4)), cnode(api.CApp, 0, five, five), cnode(api.CField, 1, pair(five)), cnode(api.CPrim, api.OpSame, cnode(api.CFn, 0, x), five), cnode(api.CPrim, api.OpSame, cnode(api.CFn, 0, x), cnode(api.CFn, 0, x)),
		{Kind: api.CFix, Ns: []int{0, 0}, L: []api.Core{x, cnode(api.CApp, 0, x, five)}}, {Kind: api.CFix, Ns: []int{0, 1, 1, 0}, L: []api.Core{pair(x, y), pair(x, y), pair(cnode(api.CApp, 0, x, five), cnode(api.CApp, 0, y, cint(6)))}},
		cnode(api.CLet, 0, five, api.Core{Kind: api.CFix, Ns: []int{1, 2, 3, 4}, L: []api.Core{pair(x, cnode(api.CVar, 3)), pair(x, y), cnode(api.CApp, 0, cnode(api.CField, 1, cnode(api.CApp, 0, y, five)), cint(7))}}),
		cnode(api.CPrim, api.OpDiv, five, cint(0)), cnode(api.CPrim, api.OpStr, cint(256)), cnode(api.CPrim, api.OpOrd, api.Core{Kind: api.CText, Text: "ab"}, cint(1)), cnode(api.CPrim, api.OpTag, pair(cint(4), five)), cnode(api.CPrim, api.OpJoin, api.Core{Kind: api.CText, Text: "ab"}, cnode(api.CPrim, api.OpDigits, cint(-4))),
	} {
		worth(t, c)
	}
}

func TestP11_6_Tails(t *testing.T) {
	v := func(n int) api.Core { return cnode(api.CVar, n) }
	less := cnode(api.CPrim, api.OpSub, v(1), cint(1))
	again := cnode(api.CApp, 0, v(0), less)
	for _, body := range []api.Core{
		again, cnode(api.CLet, 5, v(1), again), cnode(api.CIf, 0, v(1), cnode(api.CIf, 0, v(1), again, cint(2)), cint(3)), {Kind: api.CFix, Ns: []int{7, 8}, L: []api.Core{v(8), again}}, cnode(api.CLet, 5, cnode(api.CApp, 0, cnode(api.CFn, 9, v(9)), v(1)), again), cnode(api.CLet, 5, cnode(api.CTry, 6, v(1), v(6)), again), cnode(api.CApp, 0, cnode(api.CFn, 6, again), v(1)),
		cnode(api.CIf, 0, cnode(api.CIf, 0, v(1), v(1), cint(0)), again, cint(1)),
	} {
		body = cnode(api.CIf, 0, v(1), body, cint(7))
		c := api.Core{Kind: api.CFix, Ns: []int{0, 1}, L: []api.Core{body, cnode(api.CApp, 0, v(0), cint(300))}}
		f := &anfModel{clock: &clock{100000}, globals: map[int]value{}, funcs: flat(t, c)}
		if w, how := outcome(f.run); how != done || w != value(int64(7)) || f.deepest > 3 {
			t.Errorf("%s: %v, %d within one another", core.Text(c), w, f.deepest)
		}
	}
}

func TestP11_1_Refused(t *testing.T) {
	for _, c := range []api.Core{{}, cint(api.MaxInt + 1), cnode(api.CVar, 0), cnode(api.CFn, 0, cnode(api.CVar, 1)), cnode(api.CTuple, 0), cnode(api.CLet, 0, cnode(api.CVar, 0), cint(1)), cnode(api.CTuple, 0, cint(1), api.Core{Kind: 99})} {
		if l, e := anf.Flatten(c); len(l) != 0 || e != api.ErrForm {
			t.Error(core.Text(c), e)
		}
	}
	many := func(n int) api.Core {
		c := api.Core{Kind: api.CTuple}
		for range n {
			c.L = append(c.L, cnode(api.CFn, 0, cnode(api.CVar, 0)))
		}
		return c
	}
	if l, e := anf.Flatten(many(api.MaxCodes)); len(l) != 0 || e != api.ErrLong {
		t.Error(e)
	}
	if l, e := anf.Flatten(many(api.MaxCodes - 1)); len(l) != api.MaxCodes || e != api.OK || !anf.Right(l) {
		t.Error(len(l), e)
	}
	fix := api.Core{Kind: api.CFix, L: slices.Repeat([]api.Core{cint(1)}, api.MaxCodes+1)}
	for n := range api.MaxCodes {
		fix.Ns = append(fix.Ns, n, 0)
	}
	if l, e := anf.Flatten(fix); len(l) != 0 || e != api.ErrLong {
		t.Error(e)
	}
	c := many(api.MaxCodes)
	c.L[0].L = nil
	if _, e := anf.Flatten(c); e != api.ErrForm {
		t.Error("ErrForm is first", e)
	}
}

func TestP11_1_Examples(t *testing.T) {
	l := flat(t, cnode(api.CApp, 0, cnode(api.CFn, 0, cnode(api.CVar, 0)), cint(5)))
	if s := anf.Text(l); len(l) != 2 || strings.Count(s, "\n") != 2 || !strings.Contains(s, "(tail ") {
		t.Error(s)
	}
	if l := flat(t, cnode(api.CPut, 7, cint(1))); len(l) != 1 || !strings.Contains(anf.Text(l), "(put $7 ") {
		t.Error(anf.Text(l))
	}
}
