package codegen_test

import (
	"slices"
	"strings"
	"testing"

	"kindling/anf"
	"kindling/api"
	"kindling/codegen"
	"kindling/core"
	"kindling/isa"
	"kindling/machine"
	"kindling/num"
)

func aint(n int64) api.Atom   { return api.Atom{Kind: api.AInt, Num: n} }
func atext(s string) api.Atom { return api.Atom{Kind: api.AText, Text: s} }
func local(n int) api.Atom    { return api.Atom{Kind: api.ALocal, N: n} }
func global(n int) api.Atom   { return api.Atom{Kind: api.AGlobal, N: n} }

func step(kind, to, n int, args ...api.Atom) api.Step {
	return api.Step{Kind: kind, To: to, N: n, Args: args}
}

func ret(a api.Atom, steps ...api.Step) api.Block {
	return api.Block{Steps: steps, End: api.EndReturn, Args: []api.Atom{a}}
}

func one(body api.Block) []api.Func { return []api.Func{{Locals: 1, Body: body}} }

// run runs the codes of functions in a machine.
func run(t *testing.T, x *machine.Machine, l []api.Func) machine.Result {
	t.Helper()
	codes, e := codegen.Gen(l)
	if e != api.OK || !codegen.Sound(codes) || len(codes) < len(l) {
		t.Fatal("Gen", e)
	}
	if e := x.Load(codes); e != api.OK {
		t.Fatal("Load", e)
	}
	return x.Run(1<<30, 0, 0)
}

func TestP12_1_Examples(t *testing.T) {
	x, _ := machine.New(500, 100)
	if r := run(t, x, one(ret(aint(3)))); r.Kind != api.MDone || x.Value() != num.Int(3) || r.Steps > 50 {
		t.Error(r)
	}
	if r := run(t, x, one(api.Block{End: api.EndRaise, Args: []api.Atom{aint(4)}})); r.Kind != api.MRaised || x.Value() != num.Int(4) {
		t.Error(r)
	}
	for _, n := range []int64{0, -1, api.MaxImm, api.MinImm, api.MaxImm + 1, api.MinImm - 1, api.MaxInt, api.MinInt} {
		if r := run(t, x, one(ret(aint(n)))); r.Kind != api.MDone || x.Value() != num.Int(n) {
			t.Error(n, r)
		}
	}
	// A global that is named is what it held when the codes were loaded.
	run(t, x, one(ret(aint(0), step(api.SPut, 0, 5, aint(77)))))
	if r := run(t, x, one(ret(global(5), step(api.SPut, 0, 6, global(5))))); r.Kind != api.MDone || x.Value() != num.Int(77) || x.Global(6) != num.Int(77) {
		t.Error(r)
	}
}

// long is a block of so many steps, ends and atoms.
func long(parts int) api.Block {
	b := ret(aint(0))
	for range (parts - 2) / 2 {
		b.Steps = append(b.Steps, step(api.SMove, 0, 0, aint(1)))
	}
	if parts%2 == 1 {
		b.Steps = append(b.Steps, step(api.SClose, 0, 0))
	}
	return b
}

func TestP12_1_Refused(t *testing.T) {
	text := strings.Repeat("x", 8*(api.MaxSize-1))
	put := step(api.SPut, 0, 5, aint(1))
	inner := step(api.SIf, 0, 0, aint(1))
	inner.Blocks = []api.Block{long(1000), long(990)}
	free := func(n int) []api.Func {
		return []api.Func{{Locals: 1, Body: ret(aint(0), step(api.SClose, 0, 1, slices.Repeat([]api.Atom{aint(1)}, n)...))}, {Free: n, Body: ret(aint(1))}}
	}
	for i, c := range []struct {
		l []api.Func
		e api.Errno
	}{
		{nil, api.ErrForm}, {one(api.Block{}), api.ErrForm}, {one(ret(local(0))), api.ErrForm}, {[]api.Func{{Free: 1, Body: ret(aint(1))}}, api.ErrForm},
		{one(ret(global(5), put)), api.ErrLink}, {one(ret(aint(0), step(api.SMove, 0, 0, global(5)), put)), api.ErrLink}, {append(one(ret(global(5))), one(ret(aint(0), put))...), api.ErrLink}, {one(ret(global(6), put)), api.OK}, {one(ret(aint(0), step(api.SPut, 0, 5, global(5)))), api.ErrLink},
		{[]api.Func{{Locals: 500, Body: ret(aint(1))}}, api.OK}, {[]api.Func{{Locals: 501, Body: ret(aint(1))}}, api.ErrLong}, {[]api.Func{{Locals: 501, Body: ret(global(5), put)}}, api.ErrLink}, {append(one(ret(aint(0))), api.Func{Locals: 501, Body: ret(aint(1))}), api.ErrLong},
		{free(200), api.OK}, {free(201), api.ErrLong}, {one(long(2000)), api.OK}, {one(long(1999)), api.OK}, {one(long(2001)), api.ErrLong}, {one(ret(aint(0), inner)), api.OK}, {one(ret(aint(0), inner, step(api.SMove, 0, 0, aint(1)), step(api.SMove, 0, 0, aint(1)), step(api.SMove, 0, 0, aint(1)))), api.OK}, {one(ret(aint(0), inner, step(api.SMake, 0, 0, aint(1), aint(1), aint(1), aint(1), aint(1), aint(1)))), api.ErrLong},
		{one(ret(atext(text))), api.OK}, {one(ret(atext(text + "y"))), api.ErrLong}, {one(ret(aint(1), step(api.SMake, 0, 0, aint(1), atext(text+"y")))), api.ErrLong},
		{slices.Repeat(one(ret(aint(1))), api.MaxCodes), api.OK}, {slices.Repeat(one(ret(aint(1))), api.MaxCodes+1), api.ErrLong}, {append(slices.Repeat(one(ret(aint(1))), api.MaxCodes+1), api.Func{Free: -1}), api.ErrForm},
	} {
		codes, e := codegen.Gen(c.l)
		if e != c.e || e != api.OK && len(codes) != 0 || e == api.OK && !codegen.Sound(codes) {
			t.Errorf("%d: %d, not %d", i, e, c.e)
		}
	}
}

func TestP12_1_Greatest(t *testing.T) {
	// As many parts as may be, of the kinds that need most.
	var b api.Block
	for range 130 {
		b.Steps = append(b.Steps, step(api.SPrim, 0, api.OpRef, aint(1)), step(api.SPrim, 1, api.OpAssign, local(0), aint(api.MaxInt)), step(api.SMake, 2, 0, aint(1<<40), atext("a")), step(api.SClose, 3, 1, local(0)))
	}
	b.End, b.Args = api.EndReturn, []api.Atom{aint(5)}
	l := []api.Func{{Locals: 500, Body: b}, {Free: 1, Body: ret(api.Atom{Kind: api.AFree})}}
	x, _ := machine.New(api.MaxWords, api.MaxStack)
	if r := run(t, x, l); r.Kind != api.MDone || x.Value() != num.Int(5) {
		t.Error(r)
	}
	l[0].Locals = 4
	if r := run(t, x, l); r.Kind != api.MDone || x.Value() != num.Int(5) {
		t.Error(r)
	}
	l = one(ret(aint(1), step(api.SFill, 0, 1<<62, aint(1), aint(1)))) // stuck, but sound
	if r := run(t, x, l); r.Kind == api.MDone {
		t.Error(r)
	}
}

// read is instructions of a text, with ; between them.
func read(s string) []api.Ins {
	l, _, _ := isa.Read(strings.ReplaceAll(s, "; ", "\n"))
	return l
}

func TestP12_2_P12_3_Sound(t *testing.T) {
	lits := []api.Lit{{Kind: api.LInt, Num: 5}, {Kind: api.LText, Text: "a\n"}, {Kind: api.LCode, N: 1}, {Kind: api.LGlobal, N: 1023}}
	good := api.Code{Ins: read("return r0")}
	for _, s := range []string{
		"return r0", "raise r0", "tail r0 r1", "jump -1", "jump 0; return r0", "lit r1 0; lit r1 3; return r1", "put r1 0; put r1 1023; return r0", "enter 2; load r1 1; save r1 0; return r1", "load r1 1; enter 1; enter 2; enter 0; return r1", "enter 0; return r0",
		"unless r1 0; return r0", "unless r1 -1; return r0", "handle 1; return r0; return r1", "handle -1; return r0", "call r0 r1; return r0", "tuple r1 0; closure r1 -1; return r1", "return r0; jump -2", "unhandle; field r1 r1 -5; fill r1 r1 99999; return r1",
	} {
		l := []api.Code{{Lits: lits, Ins: read(s)}, good}
		if !codegen.Sound(l) || !strings.HasPrefix(codegen.Text(l), "code 0\nlit 0 int 5\nlit 1 text \"a\\n\"\nlit 2 code 1\nlit 3 global 1023\n0 ") {
			t.Error(s, codegen.Text(l))
		}
	}
	if s := codegen.Text([]api.Code{{Lits: lits[:1], Ins: read("lit r2 0; return r2")}, good}); s != "code 0\nlit 0 int 5\n0 lit r2 0\n1 return r2\ncode 1\n0 return r0\n" {
		t.Error(s)
	}
	for _, s := range []string{
		"move r1 r1", "lit r1 4; return r0", "lit r1 -1; return r0", "put r1 1024; return r0", "put r1 -1; return r0", "load r1 0; return r0", "enter 1; load r1 1; return r0", "enter 1; save r1 1; return r0", "enter 2; enter 1; save r1 2; return r0", "enter 1; load r1 -1; return r0", "enter -1; return r0", "enter 2; enter -1; return r0",
		"jump 1; return r0", "jump -2; return r0", "jump 0", "jump 2147483647", "unless r1 1; return r0", "unless r1 -2; return r0", "return r0; unless r1 -2", "handle 1; return r0", "handle -2; return r0", "return r0; handle -1", "call r0 r1", "return r0; int r1 5", "enter 0", "unhandle", "return r0; call r1 r1",
	} {
		if l := []api.Code{{Lits: lits, Ins: read(s)}, good}; len(l[0].Ins) == 0 || codegen.Sound(l) || codegen.Text(l) != "" {
			t.Error(s)
		}
	}
}

func TestP12_2_Unsound(t *testing.T) {
	good := api.Code{Ins: read("return r0")}
	text := strings.Repeat("x", 8*(api.MaxSize-1))
	with := func(l ...api.Lit) []api.Code { return []api.Code{{Lits: l, Ins: good.Ins}} }
	full := func(n int) []api.Code {
		return []api.Code{good, {Lits: slices.Repeat([]api.Lit{{Kind: api.LInt}}, 100), Ins: slices.Repeat(good.Ins, n-100)}}
	}
	for i, c := range []struct {
		l  []api.Code
		ok bool
	}{
		{nil, false}, {[]api.Code{good}, true}, {[]api.Code{{}}, false}, {[]api.Code{good, {}}, false}, {slices.Repeat([]api.Code{good}, api.MaxCodes), true}, {slices.Repeat([]api.Code{good}, api.MaxCodes+1), false}, {full(api.MaxSize), true}, {full(api.MaxSize + 1), false},
		{[]api.Code{{Ins: []api.Ins{{Op: 99}, good.Ins[0]}}}, false}, {[]api.Code{{Ins: []api.Ins{{Op: api.OpMove, A: 16}, good.Ins[0]}}}, false}, {[]api.Code{{Ins: []api.Ins{{Op: api.OpReturn, N: 1}}}}, false},
		{with(api.Lit{}), false}, {with(api.Lit{Kind: 5}), false}, {with(api.Lit{Kind: api.LInt, Num: api.MaxInt}), true}, {with(api.Lit{Kind: api.LInt, Num: api.MaxInt + 1}), false}, {with(api.Lit{Kind: api.LInt, Num: api.MinInt - 1}), false}, {with(api.Lit{Kind: api.LInt, N: 1}), false}, {with(api.Lit{Kind: api.LInt, Text: "a"}), false},
		{with(api.Lit{Kind: api.LText, Text: text}), true}, {with(api.Lit{Kind: api.LText, Text: text + "x"}), false}, {with(api.Lit{Kind: api.LText, N: 1}), false}, {with(api.Lit{Kind: api.LText, Num: 1}), false},
		{with(api.Lit{Kind: api.LCode}), true}, {with(api.Lit{Kind: api.LCode, N: 1}), false}, {with(api.Lit{Kind: api.LCode, N: -1}), false}, {with(api.Lit{Kind: api.LCode, Num: 1}), false}, {with(api.Lit{Kind: api.LCode, Text: "a"}), false},
		{with(api.Lit{Kind: api.LGlobal, N: 1023}), true}, {with(api.Lit{Kind: api.LGlobal, N: 1024}), false}, {with(api.Lit{Kind: api.LGlobal, N: -1}), false}, {with(api.Lit{Kind: api.LGlobal, Num: 1}), false},
	} {
		if codegen.Sound(c.l) != c.ok || (codegen.Text(c.l) != "") != c.ok {
			t.Error(i, !c.ok)
		}
	}
}

// goes is the functions of a CFix of two functions that go on with one another, applied to n.
func goes(t *testing.T, n int64) []api.Func {
	t.Helper()
	v := func(n int) api.Core { return api.Core{Kind: api.CVar, N: n} }
	node := func(kind, n int, l ...api.Core) api.Core { return api.Core{Kind: kind, N: n, L: l} }
	cint := func(n int64) api.Core { return api.Core{Kind: api.CInt, Num: n} }
	body := func(p, other int) api.Core {
		return node(api.CIf, 0, v(p), node(api.CApp, 0, v(other), node(api.CPrim, api.OpSub, v(p), cint(1))), cint(42))
	}
	l, e := anf.Flatten(api.Core{Kind: api.CFix, Ns: []int{0, 1, 2, 3}, L: []api.Core{body(1, 2), body(3, 0), node(api.CApp, 0, v(0), cint(n))}})
	if e != api.OK {
		t.Fatal(e)
	}
	return l
}

func TestP12_4_P12_7_Tails(t *testing.T) {
	for _, n := range []int64{0, 1, 7, 4999} {
		var first machine.Result
		for _, stack := range []int{api.MaxStack, 1040, 40, 41, 100} {
			x, _ := machine.New(3000, stack)
			r := run(t, x, goes(t, n))
			if r.Kind != api.MDone || x.Value() != num.Int(42) || r.Steps > 1e6 || first.Kind != 0 && r != first {
				if stack >= 1040 || r.Kind != api.MDeep || r.Steps >= 200 {
					t.Error(n, stack, r)
				}
			}
			first = r
		}
	}
}

func TestP12_6_Kept(t *testing.T) {
	c := func(kind, n int, l ...api.Core) api.Core { return api.Core{Kind: kind, N: n, L: l} }
	v, cint := func(n int) api.Core { return c(api.CVar, n) }, func(n int64) api.Core { return api.Core{Kind: api.CInt, Num: n} }
	// A counter: a function around a ref, that a global holds.
	counter := c(api.CPut, 3, c(api.CLet, 0, c(api.CPrim, api.OpRef, cint(40)), c(api.CFn, 1, c(api.CLet, 2, c(api.CPrim, api.OpAssign, v(0), c(api.CPrim, api.OpAdd, c(api.CField, 0, v(0)), v(1))), c(api.CField, 0, v(0))))))
	use := c(api.CApp, 0, c(api.CGlobal, 3), cint(1))
	if !core.Right(counter) || !core.Right(use) {
		t.Fatal("not right")
	}
	x, _ := machine.New(1000, 100)
	l, _ := anf.Flatten(counter)
	run(t, x, l)
	for n := range int64(50) {
		l, _ = anf.Flatten(use)
		if r := run(t, x, l); r.Kind != api.MDone || x.Value() != num.Int(41+n) {
			t.Fatal(n, r, num.ToInt(x.Value()))
		}
		x.Collect()
	}
}

func TestP12_7_Loaded(t *testing.T) {
	// At most 400 functions, blocks, steps and atoms in all.
	text := strings.Repeat("x", 8*100)
	for i, l := range [][]api.Func{
		slices.Repeat(one(ret(aint(1<<40))), 133), one(ret(aint(1), slices.Repeat([]api.Step{step(api.SMake, 0, 0, atext(text))}, 3)...)), one(ret(aint(1), slices.Repeat([]api.Step{step(api.SClose, 0, 0)}, 390)...)), one(ret(aint(1), step(api.SMake, 0, 0, slices.Repeat([]api.Atom{aint(1 << 50)}, 390)...))),
	} {
		codes, e := codegen.Gen(l)
		x, _ := machine.New(api.MaxWords, api.MinStack)
		if f := x.Load(codes); e != api.OK || f != api.OK {
			t.Error(i, e, f)
		}
	}
}
