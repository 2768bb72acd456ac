package checks

import (
	"testing"

	"kindling/anf"
	"kindling/api"
)

// fgen makes right lists of functions by chance. A function closes only those behind it, so that all ends.
type fgen struct {
	gen
	funcs []api.Func
	at    int            // the number of the function that is being made
	kinds map[int]string // what the locals are that were given something: i, t (a tuple of two integers), r (a ref of one), f (a function of one)
}

func (g *fgen) intAtom() api.Atom {
	switch g.n(6) {
	case 0:
		return api.Atom{Kind: api.AGlobal, N: g.n(3)}
	case 1:
		if g.at > 0 {
			return api.Atom{Kind: api.AArg}
		}
	case 2:
		if n := g.funcs[g.at].Free; n > 0 {
			return api.Atom{Kind: api.AFree, N: g.n(n)}
		}
	case 3:
		return api.Atom{Kind: api.AInt, Num: []int64{0, 1, 5, -3, 1 << 31, -1 << 31, 1<<31 - 1, -1<<31 - 1, api.MaxInt, api.MinInt}[g.n(10)]}
	}
	return g.local("i")
}

// local is a local of a kind; an integer, if there is none.
func (g *fgen) local(kind string) api.Atom {
	var l []int
	for n := range g.funcs[g.at].Locals {
		if g.kinds[n] == kind {
			l = append(l, n)
		}
	}
	if len(l) == 0 {
		return api.Atom{Kind: api.AInt, Num: int64(g.n(4))}
	}
	return api.Atom{Kind: api.ALocal, N: l[g.n(len(l))]}
}

func (g *fgen) ints(n int) []api.Atom {
	var l []api.Atom
	for range n {
		l = append(l, g.intAtom())
	}
	return l
}

// block is a block that ends with an integer; what it gives is forgotten behind it.
func (g *fgen) block(deep int, tail bool) api.Block {
	was := map[int]string{}
	for n, k := range g.kinds {
		was[n] = k
	}
	b := api.Block{}
	for range g.n(6) {
		s, kind := g.step(deep)
		if b.Steps = append(b.Steps, s); kind != "" {
			g.kinds[s.To] = kind
		}
	}
	switch k := g.n(8); {
	case k == 0:
		b.End, b.Args = api.EndRaise, g.ints(1)
	case k < 3 && deep > 0:
		b.End, b.Args, b.Blocks = api.EndIf, g.ints(1), []api.Block{g.block(deep-1, tail), g.block(deep-1, tail)}
	case k == 3 && tail && g.local("f").Kind == api.ALocal:
		b.End, b.Args = api.EndCall, []api.Atom{g.local("f"), g.intAtom()}
	default:
		b.End, b.Args = api.EndReturn, g.ints(1)
	}
	g.kinds = was
	return b
}

// step is a step, and what it gives its local.
func (g *fgen) step(deep int) (api.Step, string) {
	s := api.Step{To: g.n(g.funcs[g.at].Locals)}
	switch g.n(12) {
	case 0:
		s.Kind, s.Args = api.SMove, g.ints(1)
	case 1, 2:
		s.Kind, s.N, s.Args = api.SPrim, []int{api.OpAdd, api.OpSub, api.OpMul, api.OpDiv, api.OpMod, api.OpLess, api.OpAtMost, api.OpSame}[g.n(8)], g.ints(2)
	case 3:
		s.Kind, s.Args = api.SMake, g.ints(2)
		return s, "t"
	case 4:
		s.Kind, s.N, s.Args = api.SPrim, api.OpRef, g.ints(1)
		return s, "r"
	case 5:
		if a := g.local("t"); a.Kind == api.ALocal {
			s.Kind, s.N, s.Args = api.SField, g.n(2), []api.Atom{a}
			break
		}
		s.Kind, s.N, s.Args = api.SPrim, api.OpNeg, g.ints(1)
	case 6:
		if a := g.local("r"); a.Kind == api.ALocal {
			s.Kind, s.N, s.Args = api.SPrim, api.OpAssign, []api.Atom{a, g.intAtom()}
			break
		}
		s.Kind, s.N, s.Args = api.SPrim, api.OpTag, g.ints(1)
	case 7:
		if g.at+1 < len(g.funcs) {
			s.Kind, s.N = api.SClose, g.at+1+g.n(len(g.funcs)-g.at-1)
			s.Args = g.ints(g.funcs[s.N].Free)
			return s, "f"
		}
		s.Kind, s.Args = api.SMove, g.ints(1)
	case 8:
		if a := g.local("f"); a.Kind == api.ALocal {
			s.Kind, s.Args = api.SCall, []api.Atom{a, g.intAtom()}
			break
		}
		s = api.Step{Kind: api.SPut, N: 10 + g.n(3), Args: g.ints(1)}
		return s, ""
	case 9:
		return api.Step{Kind: api.SPut, N: 10 + g.n(3), Args: g.ints(1)}, ""
	case 10:
		if deep > 0 {
			s.Kind, s.Args, s.Blocks = api.SIf, g.ints(1), []api.Block{g.block(deep-1, false), g.block(deep-1, false)}
			break
		}
		s.Kind, s.Args = api.SMove, g.ints(1)
	case 11:
		s.Kind, s.N = api.STry, g.n(g.funcs[g.at].Locals)
		first := g.block(max(deep-1, 0), false)
		was := g.kinds[s.N]
		g.kinds[s.N] = "i"
		s.Blocks = []api.Block{first, g.block(max(deep-1, 0), false)}
		if g.kinds[s.N] = was; was == "" {
			delete(g.kinds, s.N)
		} else if s.N != s.To {
			g.kinds[s.N] = "" // it is what was raised, if something was
		}
	}
	return s, "i"
}

// list is a list of functions.
func (g *fgen) list() []api.Func {
	for range 1 + g.n(5) {
		g.funcs = append(g.funcs, api.Func{Free: g.n(4), Locals: 1 + g.n(18)})
	}
	g.funcs[0].Free = 0
	for g.at = range g.funcs {
		g.kinds = map[int]string{}
		g.funcs[g.at].Body = g.block(3, true)
	}
	return g.funcs
}

func TestP12_1_P12_5_Functions(t *testing.T) {
	var ended [4]int
	for seed := range uint64(8000) {
		g := &fgen{gen: gen{x: seed}}
		l := g.list()
		if !anf.Right(l) {
			t.Fatal(seed)
		}
		ended[runs(t, l, int(seed%5))]++
		if t.Failed() {
			t.Fatal("seed", seed)
		}
	}
	t.Log(ended)
	if ended[done] < 4000 || ended[raised] < 500 {
		t.Error("too few", ended)
	}
}
