package checks

import (
	"math"
	"testing"

	"kindling/anf"
	"kindling/api"
	"kindling/codegen"
	"kindling/core"
	"kindling/gc"
	"kindling/isa"
	"kindling/lex"
	"kindling/machine"
	"kindling/mem"
	"kindling/num"
	"kindling/rts"
	"kindling/session"
	"kindling/syntax"
	"kindling/types"
)

// any makes arguments by chance that need not be right.
type anyGen struct{ gen }

func (g *anyGen) int() int {
	return []int{0, 1, 2, 3, 5, 9, 15, 16, -1, 1023, 1024, math.MaxInt, math.MinInt, api.MaxSize, 1 << 31, -1 << 31, g.n(20), g.n(40)}[g.n(18)]
}

// kind is the number of a kind, mostly one that is there.
func (g *anyGen) kind(most int) int {
	if g.n(20) == 0 {
		return g.int()
	}
	return 1 + g.n(most)
}

func (g *anyGen) text() string {
	return g.pick("", "x", "f", "A", "nil", "::", "+", "'a", "val", "ref", "int", "list", "not", "\x00\xff", "true", "t", ":=", "é")
}

func (g *anyGen) count() int { return []int{0, 1, 1, 2, 2, 3}[g.n(6)] }

func some[T any](g *anyGen, deep int, one func(deep int) T) []T {
	if deep <= 0 {
		return nil
	}
	var l []T
	for range g.count() {
		l = append(l, one(deep-1))
	}
	return l
}

func (g *anyGen) expr(deep int) api.Expr {
	return api.Expr{Kind: g.kind(15), Num: int64(g.int() * g.n(2)), Name: g.text(), L: some(g, deep, g.expr), Pats: some(g, deep*g.n(2), g.pat), Decls: some(g, deep*g.n(2), g.decl)}
}

func (g *anyGen) pat(deep int) api.Pat {
	return api.Pat{Kind: g.kind(6), Num: int64(g.int() * g.n(2)), Name: g.text(), L: some(g, deep, g.pat)}
}

func (g *anyGen) ty(deep int) api.Ty {
	return api.Ty{Kind: g.kind(4), Name: g.text(), L: some(g, deep, g.ty)}
}

func (g *anyGen) con(deep int) api.Con {
	return api.Con{Name: g.text(), Arg: some(g, deep, g.ty)}
}

func (g *anyGen) decl(deep int) api.Decl {
	d := api.Decl{Kind: g.kind(5)}
	if g.n(2) == 0 {
		d.Pat, d.Expr = g.pat(deep), g.expr(deep)
	}
	if g.n(2) == 0 {
		d.Data, d.Con = api.Data{Vars: []string{g.text()}, Name: g.text(), Cons: some(g, deep, g.con)}, g.con(deep)
	}
	d.Funs = some(g, deep*g.n(2), func(deep int) api.Fun {
		return api.Fun{Name: g.text(), Pats: some(g, deep, g.pat), Body: g.expr(deep)}
	})
	return d
}

func (g *anyGen) typ(deep int) api.Type {
	return api.Type{Kind: g.kind(2), N: g.int(), Name: g.text(), L: some(g, deep, g.typ)}
}

func (g *anyGen) maker(deep int) api.Maker {
	return api.Maker{Name: g.text(), Tag: g.int(), Has: g.n(2) == 0, Vars: g.int(), Arg: g.typ(deep), Type: g.typ(deep)}
}

func (g *anyGen) core(deep int) api.Core {
	c := api.Core{Kind: g.kind(15), N: g.int(), Num: int64(g.int()), Text: g.text(), L: some(g, deep, g.core)}
	for range g.n(5) {
		c.Ns = append(c.Ns, g.int())
	}
	return c
}

func (g *anyGen) atom(int) api.Atom {
	return api.Atom{Kind: g.kind(6), N: g.int() * g.n(2), Num: int64(g.int() * g.n(2))}
}

func (g *anyGen) step(deep int) api.Step {
	return api.Step{Kind: g.kind(10), To: g.int() * g.n(2), N: g.int() * g.n(2), Args: some(g, 1, g.atom), Blocks: some(g, deep, g.block)}
}

func (g *anyGen) block(deep int) api.Block {
	return api.Block{Steps: some(g, deep, g.step), End: g.kind(4), Args: some(g, 1, g.atom), Blocks: some(g, deep, g.block)}
}

func (g *anyGen) fun(deep int) api.Func {
	return api.Func{Free: g.int(), Locals: g.int(), Body: g.block(deep)}
}

func (g *anyGen) code(int) api.Code {
	var c api.Code
	for range g.n(4) {
		c.Lits = append(c.Lits, api.Lit{Kind: g.kind(4), N: g.int(), Num: int64(g.int()), Text: g.text()})
	}
	for range g.n(9) {
		c.Ins = append(c.Ins, api.Ins{Op: g.kind(36), A: g.int(), B: g.int(), C: g.int() * g.n(2), N: g.int() * g.n(2)})
	}
	return c
}

func TestP1_Declarations(t *testing.T) {
	env := types.New()
	for seed := range uint64(20000) {
		g := &anyGen{gen{x: seed}}
		l := some(g, 4, g.decl)
		right := syntax.Right(l)
		s, e := syntax.Print(l)
		if right != (e == api.OK) || !right && s != "" {
			t.Fatal(seed)
		}
		syntax.Deep(l)
		env.Copy().Add(l)
		new(types.Env).Add(l)
		names := []core.Name{{Name: g.text(), N: g.int()}}
		for _, d := range l {
			if c, _, e := core.Lower(d, names, some(g, 2, g.maker), []int{g.int(), g.int()}); e == api.OK && !core.Right(c) {
				t.Fatal(seed, core.Text(c))
			}
		}
		types.Text(g.typ(4))
		lex.Print([]api.Token{{Kind: g.kind(7), Text: g.text(), Num: int64(g.int())}})
	}
}

func TestP1_Functions(t *testing.T) {
	for seed := range uint64(30000) {
		g := &anyGen{gen{x: seed}}
		c := g.core(4)
		core.Free(c)
		core.Globals(c)
		if core.Right(c) != (core.Text(c) != "") {
			t.Fatal(seed)
		}
		if l, e := anf.Flatten(c); e == api.OK && !anf.Right(l) {
			t.Fatal(seed)
		}
		l := some(g, 4, g.fun)
		right := anf.Right(l)
		codes, e := codegen.Gen(l)
		if right != (anf.Text(l) != "") || right == (e == api.ErrForm) || e == api.OK && !codegen.Sound(codes) {
			t.Fatal(seed)
		}
		codes = some(g, 2, g.code)
		if codegen.Sound(codes) != (codegen.Text(codes) != "") {
			t.Fatal(seed)
		}
	}
}

// size is that of an object, mostly a small one.
func (g *anyGen) size() int {
	if g.n(6) == 0 {
		return 60 + g.n(140)
	}
	return 1 + g.n(3)
}

// address is one that an object may have, or that lies within one or behind all of them.
func (g *anyGen) address(m *mem.Mem) int {
	if g.n(2) == 0 {
		return 1 + g.n(30)
	}
	return g.n(2*m.Words() + 2)
}

func TestP1_Values(t *testing.T) {
	for seed := range uint64(20000) {
		g := &anyGen{gen{x: seed}}
		m, _ := mem.New(64 + g.n(400))
		for range g.n(12) {
			a, e := m.Alloc(1+g.n(5), g.size(), g.n(4))
			_, size, _, _ := m.Look(a)
			for i := range size {
				m.Store(a, i, []uint64{num.Ptr(g.address(m)), num.Int(int64(g.n(4))), uint64(g.int())}[g.n(3)])
			}
			if size := g.size(); e != api.OK {
				m.Alloc(api.KTuple, size, size)
			}
		}
		w, v := []uint64{num.Ptr(g.address(m)), uint64(g.n(60))}[g.n(2)], uint64(g.n(60))
		if s := rts.Show(m, w, g.typ(4), append(rts.Makers(), some(g, 3, g.maker)...)); len(s) > 503 {
			t.Fatal(len(s))
		}
		rts.GetText(m, w)
		how, steps, e := rts.Same(m, w, v, 1000)
		how2, steps2, e2 := rts.Same(m, v, w, 1000)
		if how != how2 || steps != steps2 || e != e2 || steps > 1000 {
			t.Fatal(seed, how, how2, steps, steps2)
		}
		before, e := gc.Live(m, []uint64{w, v})
		roots, f := gc.Collect(m, []uint64{w, v})
		if after, _ := gc.Live(m, roots); e != f || e == api.OK && before != after {
			t.Fatal(seed, before, after, e, f)
		}
		if m.Flip(); m.Copy().Half() != m.Half() {
			t.Fatal(seed)
		}
		for range 9 {
			m.Move(g.address(m))
		}
	}
}

// ins are right instructions, of which many can be done.
func (g *anyGen) ins(n int) []api.Ins {
	var l []api.Ins
	for range n {
		i := api.Ins{Op: 1 + g.n(36)}
		for _, part := range isa.Form(i.Op) {
			switch part {
			case 'a':
				i.A = g.n(5)
			case 'b':
				i.B = g.n(5)
			case 'c':
				i.C = g.n(5)
			case 'n':
				i.N = g.n(4)
			}
		}
		switch i.Op {
		case api.OpJump, api.OpUnless, api.OpHandle:
			i.N = g.n(9) - 3
		case api.OpTuple, api.OpClosure:
			i.N = 1 + g.n(3)
		}
		l = append(l, i)
	}
	return l
}

func TestP6_6_P6_7_ByChance(t *testing.T) {
	var ended [10]int
	for seed := range uint64(5000) {
		g := &anyGen{gen{x: seed}}
		// First closures, tuples and texts into the registers, so that more can be done with them.
		begin, _, _ := isa.Read("enter 4\ntuple r1 3\nlit r2 0\nclosure r3 2\nlit r4 1\nfill r3 r4 0\nref r4 r1\nint r0 2\n")
		codes := []api.Code{
			{Lits: []api.Lit{{Kind: api.LText, Text: "ab"}, {Kind: api.LCode, N: 1}, {Kind: api.LInt, Num: 7}, {Kind: api.LGlobal, N: 2}}, Ins: append(begin, g.ins(40)...)},
			{Lits: []api.Lit{{Kind: api.LInt, Num: 3}, {Kind: api.LCode, N: 1}}, Ins: g.ins(12)},
		}
		x, _ := machine.New(30000, 500)
		x.Load(codes)
		r := x.Run(300, 0, 0)
		ended[r.Kind]++
		v := read(x.Memory(), shallow(x))
		for every := 1; every < 4; every++ {
			for _, words := range []int{30000, api.MaxWords} {
				y, _ := machine.New(words, 500)
				y.Load(codes)
				q := y.Run(300, 0, every)
				if q != r || !alike(v, read(y.Memory(), shallow(y))) {
					t.Fatal(seed, every, words, q, r)
				}
			}
		}
		y, _ := machine.New(30000, api.MaxStack)
		y.Load(codes)
		if q := y.Run(100000, 0, 0); (r.Kind == api.MDone || r.Kind == api.MRaised || r.Kind == api.MStuck) && (q != r || !alike(v, read(y.Memory(), shallow(y)))) {
			t.Fatal(seed, q, r)
		}
		y, _ = machine.New(100, 40) // it ends, whatever there is too little of
		y.Load(codes)
		y.Run(1000, 50, 2)
	}
	t.Log(ended)
}

// shallow is a machine's value, if it has no object within another one, which may lead back to itself.
func shallow(x *machine.Machine) uint64 {
	m := x.Memory()
	_, _, tagged, _ := m.Look(num.ToPtr(x.Value()))
	for i := range tagged {
		if w, _ := m.Load(num.ToPtr(x.Value()), i); num.IsPtr(w) {
			return num.Int(0)
		}
	}
	return x.Value()
}

func TestP1_Texts(t *testing.T) {
	words := []string{"val", "fun", "x", "y", "=", "(", ")", "1", "\"a\"", "+", "::", "fn", "=>", "|", "case", "of", "if", "then", "else", "let", "in", "end", ";", ",", "A", "nil", "datatype", "t", "exception", "'a", "*", "->", "~", "not", "ref", "!", ":=", "raise", "handle", "Div", "_", "div", "0", "and", "#", "(*", "*)", "\"", "int", "list"}
	var kinds [10]int
	for seed := range uint64(8000) {
		g := &anyGen{gen{x: seed}}
		s, _ := session.New(api.Options{Words: 3000, Stack: 500, Every: g.n(3)})
		text := ""
		for range 1 + g.n(14) {
			text += words[g.n(len(words))] + " "
		}
		kinds[s.Do(api.Item{Text: text, Budget: 10000, Stop: g.n(2) * g.n(100)}).Kind]++
		l, at, e := syntax.Parse(text)
		if e == api.ErrSyntax && at < len(text) { // P8.7: what stands behind it plays no part
			if _, again, f := syntax.Parse(text + ") ) val"); f == api.ErrSyntax && again != at {
				t.Fatal(text, at, again)
			}
		}
		if e == api.OK && !syntax.Right(l) {
			t.Fatal(text)
		}
	}
	t.Log(kinds)
}
