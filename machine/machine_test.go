package machine_test

import (
	"math"
	"strings"
	"testing"

	"kindling/api"
	"kindling/isa"
	"kindling/machine"
	"kindling/mem"
	"kindling/num"
	"kindling/rts"
)

// code is a code of a text: instructions with ; between them.
func code(t *testing.T, text string, lits ...api.Lit) api.Code {
	t.Helper()
	l, n, e := isa.Read(strings.ReplaceAll(text, "; ", "\n"))
	if e != api.OK {
		t.Fatalf("%s: instruction %d", text, n)
	}
	return api.Code{Lits: lits, Ins: l}
}

func made(t *testing.T, words, stack int) *machine.Machine {
	t.Helper()
	x, e := machine.New(words, stack)
	if x == nil || e != api.OK {
		t.Fatal("New", e)
	}
	return x
}

func load(t *testing.T, x *machine.Machine, l ...api.Code) {
	t.Helper()
	if e := x.Load(l); e != api.OK {
		t.Fatal("Load", e)
	}
}

func lint(n int64) api.Lit   { return api.Lit{Kind: api.LInt, Num: n} }
func ltext(s string) api.Lit { return api.Lit{Kind: api.LText, Text: s} }
func lcode(n int) api.Lit    { return api.Lit{Kind: api.LCode, N: n} }
func lglobal(n int) api.Lit  { return api.Lit{Kind: api.LGlobal, N: n} }

// ends runs codes in a machine of some size and asks for the result and the value, which is an integer.
func ends(t *testing.T, kind, steps int, value int64, l ...api.Code) {
	t.Helper()
	x := made(t, 2000, 1000)
	load(t, x, l...)
	r := x.Run(1000, 0, 0)
	if r.Kind != kind || r.Steps != steps || x.Value() != num.Int(value) {
		t.Errorf("%s: kind %d, %d steps, value %d", isa.Text(l[0].Ins[0]), r.Kind, r.Steps, num.ToInt(x.Value()))
	}
	for every := 1; every < 4; every++ { // P6.6
		y := made(t, 2000, 1000)
		load(t, y, l...)
		if s := y.Run(1000, 0, every); s != r || y.Value() != x.Value() {
			t.Errorf("every %d: %v, not %v", every, s, r)
		}
	}
}

// is runs one code of a text that ends MDone with an integer.
func is(t *testing.T, value int64, text string, lits ...api.Lit) {
	t.Helper()
	c := code(t, text, lits...)
	x := made(t, 2000, 1000)
	load(t, x, c)
	if r := x.Run(1000, 0, 0); r.Kind != api.MDone || x.Value() != num.Int(value) {
		t.Errorf("%s: kind %d, value %x", text, r.Kind, x.Value())
	}
}

// stuck runs one code of a text that is stuck behind so many steps.
func stuck(t *testing.T, steps int, text string, lits ...api.Lit) {
	t.Helper()
	ends(t, api.MStuck, steps, 0, code(t, text, lits...))
}

// raises runs one code of a text that raises an integer.
func raises(t *testing.T, value int64, text string, lits ...api.Lit) {
	t.Helper()
	x := made(t, 2000, 1000)
	load(t, x, code(t, text, lits...))
	if r := x.Run(1000, 0, 0); r.Kind != api.MRaised || x.Value() != num.Int(value) {
		t.Errorf("%s: kind %d, value %x", text, r.Kind, x.Value())
	}
}

func TestP6_1_New(t *testing.T) {
	for _, c := range [][2]int{{63, 100}, {api.MaxWords + 1, 100}, {100, 15}, {100, api.MaxStack + 1}, {-1, 100}, {100, -1}, {math.MaxInt, 100}, {100, math.MinInt}} {
		if x, e := machine.New(c[0], c[1]); x != nil || e != api.ErrArg {
			t.Error(c, e)
		}
	}
	for _, c := range [][2]int{{64, 16}, {api.MaxWords, api.MaxStack}} {
		x := made(t, c[0], c[1])
		m := x.Memory()
		if m.Words() != c[0] || m.Free() != c[0] || m.Half() != 0 || x.Value() != num.Int(0) || x.Live() != 0 {
			t.Error(c)
		}
		for _, n := range []int{0, 1, 1023} {
			if x.Global(n) != num.Int(0) {
				t.Error("global", n)
			}
		}
		if r := x.Run(100, 0, 0); r != (machine.Result{}) {
			t.Error("no code is loaded", r)
		}
	}
}

func TestP6_1_Stack(t *testing.T) {
	c := code(t, "enter 13; int r2 5; return r2")
	for _, k := range []struct{ stack, kind, steps int }{{16, api.MDone, 3}, {17, api.MDone, 3}} {
		x := made(t, 64, k.stack)
		load(t, x, c)
		if r := x.Run(9, 0, 0); r.Kind != k.kind || r.Steps != k.steps {
			t.Error(k, r)
		}
	}
	again := code(t, "enter 10; enter 13; int r2 5; return r2") // in place of those that it had
	y := made(t, 64, 16)
	load(t, y, again)
	if r := y.Run(9, 0, 0); r.Kind != api.MDone {
		t.Error(r)
	}
	c.Ins[0].N = 14
	x := made(t, 64, 16)
	load(t, x, c)
	if r := x.Run(9, 0, 0); r.Kind != api.MDeep || r.Steps != 1 || x.Value() != num.Int(0) {
		t.Error(r)
	}
}

func TestP6_2_Refused(t *testing.T) {
	good := code(t, "int r2 5; return r2")
	bad := api.Code{Ins: []api.Ins{{Op: 99}}}
	var none *machine.Machine
	if e := none.Load(nil); e != api.ErrNil {
		t.Error(e)
	}
	long := strings.Repeat("x", 8*(api.MaxSize-1)+1)
	for i, c := range []struct {
		l []api.Code
		e api.Errno
	}{
		{nil, api.ErrArg}, {make([]api.Code, api.MaxCodes+1), api.ErrLong},
		{[]api.Code{good, {Ins: make([]api.Ins, api.MaxSize+1)}}, api.ErrLong},
		{[]api.Code{{Lits: make([]api.Lit, api.MaxSize), Ins: make([]api.Ins, 1)}}, api.ErrLong},
		{[]api.Code{{Lits: make([]api.Lit, api.MaxSize)}}, api.ErrArg},
		{[]api.Code{{Lits: []api.Lit{lint(1), {Kind: 5}}, Ins: bad.Ins}}, api.ErrArg},
		{[]api.Code{{Lits: []api.Lit{ltext(long)}, Ins: bad.Ins}}, api.ErrLong},
		{[]api.Code{{Lits: []api.Lit{lcode(1)}}}, api.ErrLink}, {[]api.Code{{Lits: []api.Lit{lcode(-1)}}}, api.ErrLink},
		{[]api.Code{{Lits: []api.Lit{lglobal(api.MaxGlobal)}}}, api.ErrLink}, {[]api.Code{{Lits: []api.Lit{lglobal(-1), {Kind: 9}}}}, api.ErrLink},
		{[]api.Code{{Lits: []api.Lit{{}, lglobal(-1)}}}, api.ErrArg},
		{[]api.Code{good, bad, {Lits: []api.Lit{{}}}}, api.ErrOp}, {[]api.Code{good, {Lits: []api.Lit{{}}}, bad}, api.ErrArg},
		{[]api.Code{{Ins: []api.Ins{{Op: api.OpMove, A: 16}}}}, api.ErrReg}, {[]api.Code{{Ins: []api.Ins{{Op: api.OpMove, N: 1}}}}, api.ErrArg},
	} {
		x := made(t, 2000, 100)
		load(t, x, good)
		x.Run(9, 0, 0)
		live := x.Live()
		if e := x.Load(c.l); e != c.e {
			t.Error(i, e)
		}
		if x.Value() != num.Int(5) || x.Live() != live {
			t.Error(i, "something has changed")
		}
		if r := x.Run(9, 0, 0); r.Kind != api.MDone {
			t.Error(i, "the code is loaded no more", r)
		}
	}
}

func TestP6_2_Room(t *testing.T) {
	c := code(t, "lit r2 0; return r2", ltext("abcdefghi"), lint(7), lcode(0), lglobal(3))
	// 1 + 4 + 2 of the code, 1 + 1 + 2 of the text, in 64 words.
	for n, want := range []api.Errno{0: api.ErrArg, 1: api.OK, 5: api.OK, 6: api.ErrFull} {
		if n > 1 && n < 5 {
			continue
		}
		x := made(t, 64, 100)
		var l []api.Code
		for range n {
			l = append(l, c)
		}
		if e := x.Load(l); e != want {
			t.Error(n, e)
		}
		if want == api.OK && x.Memory().Free() != 64-11*n {
			t.Error(n, x.Memory().Free())
		}
		if n == 1 && x.Live() != 11 {
			t.Error("Live", x.Live())
		}
	}
}

func TestP6_2_Unloaded(t *testing.T) {
	x := made(t, 64, 100)
	load(t, x, code(t, "int r2 5; return r2"))
	x.Run(9, 0, 0)
	l := make([]api.Code, 65)
	if e := x.Load(l); e != api.ErrFull {
		t.Error(e)
	}
	if x.Value() != num.Int(0) || x.Live() != 0 || x.Run(9, 0, 0) != (machine.Result{}) {
		t.Error("a code is loaded still")
	}
	if e := x.Load(l[:64]); e != api.OK || x.Live() != 1 {
		t.Error("what can't be reached takes no room", e, x.Live())
	}
	if r := x.Run(9, 0, 0); r.Kind != api.MStuck || r.Steps != 1 {
		t.Error("a code of nothing", r)
	}
	if e := x.Load(l[:64]); e != api.OK {
		t.Error("what was loaded is loaded no more", e)
	}
}

func TestP6_2_Greatest(t *testing.T) {
	x := made(t, api.MaxWords, 16)
	if e := x.Load(make([]api.Code, api.MaxCodes)); e != api.OK || x.Live() != 1 {
		t.Error(e)
	}
	long := code(t, "lit r2 0; size r2 r2; return r2", ltext(strings.Repeat("x", 8*(api.MaxSize-1))))
	load(t, x, long)
	if x.Run(9, 0, 0); x.Value() != num.Int(8*(api.MaxSize-1)) {
		t.Error(x.Value())
	}
	full := code(t, "int r2 5; return r2")
	full.Lits = make([]api.Lit, api.MaxSize-2)
	for i := range full.Lits {
		full.Lits[i] = lint(1)
	}
	load(t, x, full)
	if x.Run(9, 0, 0); x.Value() != num.Int(5) || x.Live() != 1+api.MaxSize {
		t.Error(x.Value(), x.Live())
	}
}

func TestP6_2_Literals(t *testing.T) {
	is(t, -5, "lit r2 1; return r2", lint(9), lint(-5))
	is(t, api.MinInt, "lit r2 0; return r2", lint(api.MaxInt+1))
	is(t, 3, "lit r2 0; size r2 r2; return r2", ltext("abc"))
	x := made(t, 2000, 100)
	load(t, x, code(t, "int r2 77; put r2 5; int r2 78; put r2 1023; return r2"))
	x.Run(9, 0, 0)
	load(t, x, code(t, "int r2 1; put r2 5; lit r2 0; return r2", lglobal(5)))
	if r := x.Run(9, 0, 0); r.Kind != api.MDone || x.Value() != num.Int(77) || x.Global(5) != num.Int(1) || x.Global(1023) != num.Int(78) {
		t.Error("what the global held when it was loaded", r, x.Value())
	}
	ends(t, api.MDone, 6, 4,
		code(t, "closure r2 2; lit r3 1; fill r2 r3 0; tail r2 r3", lcode(0), lcode(1)),
		code(t, "int r4 4; return r4"))
}

func TestP6_3_Run(t *testing.T) {
	c := code(t, "int r2 5; int r3 -7; mul r2 r2 r3; return r2")
	x := made(t, 64, 100)
	load(t, x, c)
	for _, k := range []struct {
		budget, stop int
		kind, steps  int
		value        int64
	}{
		{4, 0, api.MDone, 4, -35}, {3, 0, api.MTimeout, 3, 0}, {0, 0, api.MTimeout, 0, 0}, {-5, 0, api.MTimeout, 0, 0}, {math.MaxInt, 0, api.MDone, 4, -35},
		{4, 4, api.MDone, 4, -35}, {4, 3, api.MInterrupt, 3, 0}, {3, 3, api.MInterrupt, 3, 0}, {2, 3, api.MTimeout, 2, 0}, {100, 1, api.MInterrupt, 1, 0},
		{4, -1, api.MDone, 4, -35}, {0, 1, api.MTimeout, 0, 0}, {9, math.MaxInt, api.MDone, 4, -35},
	} {
		if r := x.Run(k.budget, k.stop, 0); r.Kind != k.kind || r.Steps != k.steps || x.Value() != num.Int(k.value) {
			t.Error(k, r, x.Value())
		}
	}
	var none *machine.Machine
	if r := none.Run(9, 0, 0); r != (machine.Result{}) {
		t.Error(r)
	}
}

func TestP6_3_Fresh(t *testing.T) {
	x := made(t, 64, 100)
	load(t, x, code(t, "add r2 r2 r0; add r2 r2 r15; int r0 5; int r15 6; int r2 1; load r3 0"))
	for range 2 { // the registers are 0 again, and there are no slots
		if r := x.Run(99, 0, 0); r.Kind != api.MStuck || r.Steps != 6 {
			t.Error(r)
		}
	}
	load(t, x, code(t, "unless r5 1; return r5; int r5 1; enter 1; handle 0; int r2 9; return r9"))
	if r := x.Run(99, 0, 0); r.Kind != api.MStuck {
		t.Error("the handler is this frame's", r)
	}
	load(t, x, code(t, "raise r2"))
	if r := x.Run(99, 0, 0); r.Kind != api.MRaised {
		t.Error("a handler of another run", r)
	}
}

func TestP6_3_Every(t *testing.T) {
	for every, collected := range map[int]int{0: 0, 1: 1, 2: 0, 4: 1, 3: 1, 5: 1, 6: 0, -1: 0} {
		x := made(t, 64, 100)
		load(t, x, code(t, "int r2 1; int r2 2; int r2 3; int r2 4; return r2"))
		x.Run(9, 0, every)
		if h := x.Memory().Half(); h != collected {
			t.Error(every, h)
		}
	}
}

func TestP6_4_Carry(t *testing.T) {
	is(t, 2147483647, "int r15 2147483647; move r2 r15; move r2 r2; return r2")
	is(t, -2147483648, "int r15 -2147483648; return r15")
	is(t, 7, "enter 2; int r2 7; save r2 1; int r2 8; save r2 0; load r3 1; return r3")
	is(t, 0, "enter 2; int r2 7; save r2 1; enter 2; load r3 1; return r3")
	for _, s := range []string{"lit r2 1", "lit r2 -1", "put r2 1024", "put r2 -1", "load r2 0", "save r2 0"} {
		stuck(t, 1, s+"; return r0", lint(1))
	}
	stuck(t, 2, "enter 2; load r2 2; return r0")
	stuck(t, 2, "enter 0; load r2 0; return r0")
	stuck(t, 3, "enter 2; enter 0; load r2 0; return r0")
	is(t, 5, "enter 0; int r2 5; return r2")
	stuck(t, 2, "enter 2; save r2 -1; return r0")
	stuck(t, 2, "enter 2; save r2 2; return r0")
}

func TestP6_4_Reckon(t *testing.T) {
	for _, c := range []struct {
		op   string
		b, c int64
		a    int64
	}{
		{"add", 3, 4, 7}, {"add", api.MaxInt, 1, api.MinInt}, {"sub", 3, 4, -1}, {"sub", api.MinInt, 1, api.MaxInt}, {"mul", -3, 4, -12}, {"mul", 1 << 40, 1 << 40, 0},
		{"div", -7, 2, -4}, {"mod", -7, 2, 1}, {"mod", 7, -2, -1}, {"div", api.MinInt, -1, api.MinInt},
		{"less", 3, 4, 1}, {"less", 4, 4, 0}, {"less", 5, 4, 0}, {"less", -1, 0, 1}, {"atmost", 3, 4, 1}, {"atmost", 4, 4, 1}, {"atmost", 5, 4, 0}, {"same", 4, 4, 1}, {"same", 4, 5, 0},
	} {
		is(t, c.a, "lit r4 0; lit r5 1; "+c.op+" r6 r4 r5; return r6", lint(c.b), lint(c.c))
		is(t, c.a, "lit r4 0; lit r5 1; "+c.op+" r4 r4 r5; return r4", lint(c.b), lint(c.c))
		if c.op == "same" {
			continue
		}
		stuck(t, 3, "ref r4 r0; lit r5 1; "+c.op+" r6 r4 r5; return r6", lint(c.b), lint(c.c))
		stuck(t, 3, "ref r4 r0; lit r5 1; "+c.op+" r6 r5 r4; return r6", lint(c.b), lint(c.c))
	}
	is(t, -5, "int r2 5; neg r3 r2; return r3")
	is(t, api.MinInt, "lit r2 0; neg r3 r2; return r3", lint(api.MinInt))
	stuck(t, 2, "ref r2 r0; neg r3 r2; return r3")
	raises(t, api.XDiv, "int r2 1; div r3 r2 r0; return r3")
	raises(t, api.XDiv, "int r2 1; mod r3 r2 r0; return r3")
}

func TestP6_4_Same(t *testing.T) {
	pairs := "int r9 3; tuple r2 2; fill r2 r9 0; tuple r3 2; fill r3 r9 0; tuple r4 2; fill r4 r2 1; tuple r5 2; fill r5 r3 1; "
	c := code(t, pairs+"same r6 r4 r5; return r6")
	ends(t, api.MDone, 15, 1, c) // 11 instructions; five pairs, of which the first one is that step itself
	for budget := range 18 {
		x := made(t, 200, 100)
		load(t, x, c)
		kind := api.MTimeout
		if budget >= 15 {
			kind = api.MDone
		}
		if r := x.Run(budget, 0, 0); r.Kind != kind || r.Steps != min(budget, 15) {
			t.Error(budget, r)
		}
	}
	ends(t, api.MDone, 13, 0, code(t, pairs+"fill r4 r9 0; same r6 r4 r5; return r6"))
	x := made(t, 200, 100)
	load(t, x, c)
	if r := x.Run(1000, 12, 0); r.Kind != api.MInterrupt || r.Steps != 14 {
		t.Error("as many steps, or more", r)
	}
	raises(t, api.XEqual, "closure r2 1; same r3 r2 r2; return r3")
	ends(t, api.MRaised, 7, api.XEqual, code(t, "closure r2 1; tuple r4 2; fill r4 r2 1; move r5 r4; same r3 r4 r5; return r3"))
	raises(t, api.XEqual, "closure r2 1; tuple r3 1; same r3 r2 r3; return r3")
	is(t, 0, "closure r2 1; same r3 r2 r0; return r3")
	is(t, 1, "lit r2 0; lit r3 1; same r3 r2 r3; return r3", ltext("a"), ltext("a"))
	is(t, 0, "lit r2 0; lit r3 1; same r3 r2 r3; return r3", ltext("a"), ltext("b"))
}

func TestP6_4_Objects(t *testing.T) {
	is(t, 0, "tuple r2 3; field r3 r2 2; return r3")
	is(t, 8, "int r4 8; tuple r2 3; fill r2 r4 2; field r3 r2 2; return r3")
	is(t, 8, "int r4 8; closure r2 3; fill r2 r4 1; field r3 r2 1; return r3")
	is(t, 8, "int r4 8; ref r2 r4; field r3 r2 0; return r3")
	is(t, 8, "int r2 8; ref r2 r2; field r2 r2 0; return r2")
	is(t, 9, "int r4 8; ref r2 r4; int r4 9; assign r2 r4; field r3 r2 0; return r3")
	is(t, 8, "int r4 8; tag r5 r4; return r5")
	is(t, 8, "int r4 8; tuple r2 2; fill r2 r4 0; tag r5 r2; return r5")
	for _, s := range []string{"tuple r2 0", "tuple r2 16385", "tuple r2 -1", "closure r2 0", "closure r2 2147483647", "closure r2 16385", "field r2 r0 0", "fill r0 r0 0", "assign r0 r0"} {
		stuck(t, 1, s+"; return r2")
	}
	for _, s := range []string{"field r3 r2 1", "field r3 r2 -1", "field r3 r2 2147483647", "fill r2 r2 1", "fill r2 r2 -1", "assign r2 r2"} {
		stuck(t, 2, "tuple r2 1; "+s+"; return r3")
	}
	stuck(t, 2, "ref r2 r0; fill r2 r0 0; return r2")
	stuck(t, 2, "lit r2 0; field r3 r2 0; return r2", ltext("a"))
	stuck(t, 2, "lit r2 0; field r3 r2 0; return r2", lcode(0))
	stuck(t, 2, "lit r2 0; fill r2 r0 0; return r2", lcode(0))
	stuck(t, 2, "lit r2 0; tag r3 r2; return r2", ltext("a"))
	stuck(t, 2, "ref r2 r0; tag r3 r2; return r2")
	stuck(t, 2, "closure r2 1; tag r3 r2; return r2")
	stuck(t, 2, "closure r2 1; assign r2 r0; return r2")
	stuck(t, 3, "tuple r2 1; fill r2 r2 0; tag r3 r2; return r2")
}

func TestP6_4_Jumps(t *testing.T) {
	is(t, 1, "int r2 1; jump 1; int r2 2; return r2")
	is(t, 1, "int r2 1; unless r3 1; int r2 2; return r2")
	is(t, 2, "int r2 1; unless r2 1; int r2 2; return r2")
	is(t, 2, "int r2 1; unless r2 -2147483648; int r2 2; return r2")
	is(t, 5, "int r3 5; int r4 1; jump 1; add r2 r2 r4; less r5 r2 r3; unless r5 1; jump -4; return r2")
	stuck(t, 2, "tuple r2 1; unless r2 1; return r2; return r2")
	stuck(t, 2, "jump 2147483647; return r2")
	stuck(t, 2, "jump -2; return r2")
	stuck(t, 2, "jump -2; return r2", lint(15), lint(15)) // their words are those of raise r0
	stuck(t, 2, "jump 1; return r2")
	stuck(t, 1, "enter -1; return r2")
	stuck(t, 3, "int r2 1; int r2 1; lit r2 0")
	ends(t, api.MDeep, 1, 0, code(t, "enter 2147483647; return r2"))
}

// called is a code that calls the code 1 with 5, and what it does then.
func called(t *testing.T, then string) api.Code {
	return code(t, "closure r2 1; lit r3 0; fill r2 r3 0; int r3 5; "+then, lcode(1))
}

func TestP6_4_Calls(t *testing.T) {
	add := code(t, "int r2 1; add r1 r1 r2; return r1")
	ends(t, api.MDone, 9, 6, called(t, "call r2 r3; return r0"), add)
	ends(t, api.MDone, 8, 6, called(t, "tail r2 r3"), add)
	ends(t, api.MStuck, 6, 0, called(t, "call r2 r3; return r0"), code(t, "load r2 0; return r2")) // without slots
	// The callee has the closure in r0, the argument in r1, and the caller's slots stay.
	ends(t, api.MDone, 8, 5, called(t, "call r2 r3; return r0"), code(t, "field r4 r0 0; return r1"))
	ends(t, api.MDone, 12, 5, called(t, "enter 1; save r3 0; call r2 r3; load r2 0; return r2"), code(t, "enter 3; int r3 9; return r3"))
	// In r0 and r1 even if these are what is called and handed on, the other way round.
	ends(t, api.MDone, 9, 7, code(t, "closure r1 2; lit r0 0; fill r1 r0 0; int r0 7; tail r1 r0", lcode(1)), code(t, "field r3 r0 0; add r1 r1 r2; move r2 r1; return r2"))
	for _, op := range []string{"call", "tail"} {
		stuck(t, 1, op+" r0 r1; return r0")
		stuck(t, 2, "tuple r2 1; "+op+" r2 r1; return r0")
		stuck(t, 2, "closure r2 1; "+op+" r2 r1; return r0")
		stuck(t, 3, "closure r2 1; fill r2 r2 0; "+op+" r2 r1; return r0")
	}
}

// loop is a code that is applied to a number and goes on with one less, till that is 0.
func loop(t *testing.T, again string) api.Code {
	return code(t, "unless r1 3; int r2 1; sub r1 r1 r2; "+again)
}

func TestP6_4_Stack(t *testing.T) {
	start := "closure r2 1; lit r3 0; fill r2 r3 0; int r3 1000; "
	for _, c := range []struct {
		text  string
		kind  int
		stack int
	}{
		{"tail r0 r1; return r1", api.MDone, 16},
		{"call r0 r1; return r1", api.MDeep, 3002},
		{"call r0 r1; return r1", api.MDone, 3006},
		{"enter 2; tail r0 r1; return r1", api.MDone, 16},
		{"enter 2; call r0 r1; return r1", api.MDeep, 5005},
	} {
		x := made(t, 2000, c.stack)
		again := loop(t, c.text)
		again.Ins[0].N = len(again.Ins) - 2
		load(t, x, code(t, start+"call r2 r3; return r0", lcode(1)), again)
		if r := x.Run(1e6, 0, 0); r.Kind != c.kind {
			t.Error(c.text, c.stack, r)
		}
	}
	for stack, kind := range map[int]int{16: api.MDeep, 17: api.MDeep, 18: api.MDone} { // a frame and five handlers
		x := made(t, 2000, stack)
		load(t, x, code(t, "handle 0; handle 0; handle 0; handle 0; handle 0; unhandle; unhandle; unhandle; unhandle; unhandle; return r2"))
		if r := x.Run(99, 0, 0); r.Kind != kind {
			t.Error(stack, r)
		}
	}
}

func TestP6_4_Handlers(t *testing.T) {
	ends(t, api.MDone, 5, 2, code(t, "int r2 1; int r3 0; handle 2; div r2 r2 r3; unhandle; return r0"))
	ends(t, api.MDone, 6, 1, code(t, "int r2 1; int r3 1; handle 2; div r2 r2 r3; unhandle; return r2"))
	raises(t, 9, "int r2 9; raise r2")
	raises(t, api.XDiv, "handle 0; unhandle; int r2 1; div r2 r2 r3; return r2")
	raises(t, 7, "int r2 7; handle 1; raise r2; raise r0") // the handler is gone when it is come to
	is(t, 8, "int r2 7; handle 5; handle 1; raise r2; int r3 1; add r0 r0 r3; raise r0; return r0")
	is(t, 5, "enter 1; int r2 5; save r2 0; handle 1; raise r3; load r2 0; return r2")
	stuck(t, 1, "unhandle; return r2")
	stuck(t, 2, "handle 0; return r2")
	stuck(t, 5, "closure r2 1; lit r3 0; fill r2 r3 0; handle 0; tail r2 r3", lcode(0))
	stuck(t, 3, "handle -3; raise r2; return r2")
	// Frames above the handler's own are gone, with their slots.
	ends(t, api.MDone, 14, 3, called(t, "enter 1; save r3 0; handle 2; call r2 r3; return r0; load r4 0; sub r0 r4 r0; return r0"), code(t, "enter 5; int r4 2; raise r4"))
	// Another frame's handler is none of this one's.
	ends(t, api.MStuck, 7, 0, called(t, "handle 0; call r2 r3; return r0"), code(t, "unhandle; return r1"))
	ends(t, api.MDone, 11, 5, called(t, "handle 0; call r2 r3; unhandle; return r0"), code(t, "handle 0; unhandle; return r1"))
	ends(t, api.MDone, 13, 5, called(t, "handle 0; call r2 r3; unhandle; return r0"), code(t, "closure r2 1; lit r3 0; fill r2 r3 0; tail r2 r1", lcode(2)), code(t, "return r1"))
}

func TestP6_4_Texts(t *testing.T) {
	is(t, 5, "lit r2 0; lit r3 1; join r2 r2 r3; size r2 r2; return r2", ltext("ab"), ltext("cde"))
	is(t, 'd', "lit r2 0; lit r3 1; join r2 r2 r3; int r4 3; ord r2 r2 r4; return r2", ltext("ab"), ltext("cde"))
	is(t, 'k', "lit r2 0; int r4 10; ord r2 r2 r4; return r2", ltext("abcdefghijk"))
	is(t, 255, "lit r2 0; ord r2 r2 r4; return r2", ltext("\xff"))
	is(t, 200, "int r2 200; str r3 r2; ord r2 r3 r4; return r2")
	is(t, 255, "int r2 255; str r3 r2; ord r2 r3 r4; return r2")
	is(t, 0, "str r3 r2; ord r2 r3 r4; return r2")
	is(t, 1, "int r2 200; str r3 r2; size r2 r3; return r2")
	is(t, 1, "lit r2 0; int r3 -45; digits r3 r3; same r2 r2 r3; return r2", ltext("-45"))
	raises(t, api.XChr, "int r2 256; str r3 r2; return r3")
	raises(t, api.XChr, "int r2 -1; str r3 r2; return r3")
	raises(t, api.XSubscript, "lit r2 0; int r3 3; ord r2 r2 r3; return r2", ltext("abc"))
	raises(t, api.XSubscript, "lit r2 0; int r3 -1; ord r2 r2 r3; return r2", ltext("abc"))
	raises(t, api.XSubscript, "lit r2 0; lit r3 1; ord r2 r2 r3; return r2", ltext("abc"), lint(api.MinInt))
	for _, s := range []string{"join r3 r2 r0", "join r3 r0 r2", "size r3 r0", "ord r3 r0 r0", "ord r3 r2 r2"} {
		stuck(t, 2, "lit r2 0; "+s+"; return r2", ltext("abc"))
	}
	stuck(t, 2, "lit r2 0; str r3 r2; return r2", ltext("abc"))
	stuck(t, 2, "lit r2 0; digits r3 r2; return r2", ltext("abc"))
	stuck(t, 2, "tuple r2 1; size r3 r2; return r2")
}

func TestP6_4_LongTexts(t *testing.T) {
	half := strings.Repeat("x", 4*(api.MaxSize-1))
	for more, kind := range map[string]int{"": api.MDone, "y": api.MMemory} {
		x := made(t, api.MaxWords, 100)
		load(t, x, code(t, "lit r2 0; lit r3 1; join r2 r2 r3; size r2 r2; return r2", ltext(half), ltext(half+more)))
		if r := x.Run(9, 0, 0); r.Kind != kind {
			t.Error(len(more), r)
		}
	}
}

// objects is how many objects a memory has, where no address but theirs is one's.
func objects(t *testing.T, m *mem.Mem) int {
	t.Helper()
	n := 0
	for a := 0; a <= 2*m.Words()+1; a++ {
		_, _, _, e := m.Look(a)
		_, f := m.Load(a, 0)
		if e != f || e != api.OK && e != api.ErrRange {
			t.Error(a, e, f)
		}
		if e == api.OK {
			n++
		}
	}
	return n
}

func TestP6_5_LongTextsInMemory(t *testing.T) {
	for _, size := range []int{8 * 62, 8 * 63, 8 * 200, 8 * (api.MaxSize - 1)} {
		x := made(t, api.MaxWords, 100)
		c := code(t, "lit r2 0; lit r3 1; put r3 0; int r4 -1; ord r5 r3 r4; return r5", ltext("ab"), ltext(strings.Repeat("x", size)))
		load(t, x, c)
		if n := objects(t, x.Memory()); n != 3 {
			t.Error(size, n)
		}
		if r := x.Run(9, 0, 1); r.Kind != api.MRaised || x.Value() != num.Int(api.XSubscript) {
			t.Error(size, r)
		}
		if n := objects(t, x.Copy().Memory()); n != 3 {
			t.Error(size, n)
		}
		old := x.Global(0)
		x.Collect()
		if _, e := rts.GetText(x.Memory(), old); e != api.ErrWord { // it stands in the other half now
			t.Error(size, e)
		}
		if n := objects(t, x.Memory()); n != 3 {
			t.Error(size, n)
		}
	}
}

func TestP6_4_NoRoom(t *testing.T) {
	for text, fits := range map[string]bool{
		"tuple r2 100": false, "tuple r2 44": true, "closure r2 60": false, "tuple r3 44; tuple r4 9": false, "tuple r3 44; tuple r3 9": false, "tuple r3 20; move r3 r1; tuple r2 44": true,
		"tuple r3 42; ref r4 r3": true, "tuple r3 43; ref r4 r3": false, "tuple r3 44; ref r4 r3; ref r4 r3": false, "tuple r3 40; digits r2 r1; digits r2 r1": false, "tuple r3 38; digits r2 r1; digits r2 r1": true, "tuple r3 43; str r2 r1": false, "tuple r3 42; str r2 r1": false, "tuple r3 41; str r2 r1": true,
		"int r2 1; str r2 r2; tuple r3 37; join r2 r2 r2": true, "int r2 1; str r2 r2; tuple r3 40; join r2 r2 r2": false,
	} {
		c := code(t, text+"; return r1")
		for len(c.Lits)+len(c.Ins) < 18 { // so that the code needs 19 words of 64
			c.Lits = append(c.Lits, lint(0))
		}
		x := made(t, 64, 100)
		load(t, x, c)
		kind := api.MDone
		if !fits {
			kind = api.MMemory
		}
		if r := x.Run(99, 0, 0); r.Kind != kind {
			t.Error(text, r)
		}
	}
	x := made(t, 64, 100)
	load(t, x, code(t, "tuple r2 100"))
	if r := x.Run(99, 0, 0); r.Kind != api.MMemory || r.Steps != 1 || x.Value() != num.Int(0) {
		t.Error(r)
	}
}

func TestP6_5_Asked(t *testing.T) {
	x := made(t, 64, 100)
	load(t, x, code(t, "tuple r2 2; put r2 7; tuple r3 3; fill r3 r2 0; return r3"))
	x.Run(9, 0, 0)
	if x.Live() != 6+3+4 {
		t.Error(x.Live())
	}
	x.Collect()
	m := x.Memory()
	if m.Half() != 1 || m.Words()-m.Free() != 13 {
		t.Error(m.Half(), m.Free())
	}
	if w, _ := m.Load(num.ToPtr(x.Value()), 0); w != x.Global(7) || !num.IsPtr(w) {
		t.Error("the words were not changed with it")
	}
	m.Store(num.ToPtr(x.Value()), 0, num.Int(5)) // it is a copy
	if w, _ := x.Memory().Load(num.ToPtr(x.Value()), 0); w != x.Global(7) {
		t.Error("the memory has changed")
	}
	for _, n := range []int{-1, api.MaxGlobal, math.MaxInt, math.MinInt} {
		x.Clear(n)
		if x.Global(n) != num.Int(0) {
			t.Error(n)
		}
	}
	x.Clear(7)
	if x.Global(7) != num.Int(0) || x.Live() != 13 {
		t.Error("the value has it still", x.Live())
	}
	x.Load([]api.Code{{}})
	if x.Live() != 1 {
		t.Error(x.Live())
	}
}

func TestP6_5_Nil(t *testing.T) {
	for _, x := range []*machine.Machine{nil, new(machine.Machine)} {
		x.Clear(1)
		x.Collect()
		if x.Value() != 0 || x.Global(1) != 0 || x.Global(-1) != 0 || x.Live() != 0 || x.Memory() != nil {
			t.Error("nil")
		}
	}
	var x *machine.Machine
	if x.Copy() != nil {
		t.Error("Copy")
	}
}

func TestP6_5_P6_9_Copy(t *testing.T) {
	x := made(t, 200, 100)
	load(t, x, code(t, "lit r2 0; int r3 1; field r4 r2 0; add r4 r4 r3; assign r2 r4; return r2", lglobal(3)), code(t, ""))
	load(t, x, code(t, "int r2 40; ref r2 r2; put r2 3; return r2"))
	x.Run(9, 0, 0)
	load(t, x, code(t, "lit r2 0; int r3 1; field r4 r2 0; add r4 r4 r3; assign r2 r4; return r4", lglobal(3)))
	c := x.Copy()
	for i := range int64(3) {
		if x.Run(9, 0, int(i)); x.Value() != num.Int(41+i) {
			t.Error(x.Value())
		}
	}
	x.Clear(3)
	if c.Run(9, 0, 0); c.Value() != num.Int(41) || !num.IsPtr(c.Global(3)) {
		t.Error("the copy has changed", c.Value())
	}
	load(t, c, code(t, "return r2"))
	if x.Run(9, 0, 0); x.Value() != num.Int(44) {
		t.Error("the first one has changed", x.Value())
	}
}

// listing is codes of a program that makes a list of pairs of a number and its digits, n long, again and again, and ends with the sum of the digits' sizes.
func listing(t *testing.T) []api.Code {
	return []api.Code{
		code(t, "enter 2; int r2 30; save r2 0; closure r4 1; lit r5 0; fill r4 r5 0; int r6 12; call r4 r6; save r0 1; load r2 0; int r3 1; sub r2 r2 r3; save r2 0; unless r2 1; jump -12; load r2 1; put r2 1; return r2", lcode(1)),
		code(t, "unless r1 18; enter 2; save r1 0; int r2 1; sub r1 r1 r2; call r0 r1; save r0 1; load r2 0; digits r3 r2; tuple r4 2; fill r4 r2 0; fill r4 r3 1; tuple r5 2; fill r5 r4 0; load r6 1; fill r5 r6 1; int r7 1; move r0 r5; return r0; return r1"),
	}
}

// told is the list that listing leaves.
func told(x *machine.Machine) string {
	pair := func(l ...api.Type) api.Type { return api.Type{Kind: api.KCon, N: api.STuple, L: l} }
	t := pair(pair(api.Type{Kind: api.KCon, N: api.SInt}, api.Type{Kind: api.KCon, N: api.SString}), api.Type{Kind: api.KVar})
	var out []string
	m := x.Memory()
	for w := x.Value(); num.IsPtr(w); {
		out = append(out, rts.Show(m, w, t, nil))
		w, _ = m.Load(num.ToPtr(w), 1)
	}
	return strings.Join(out, " ")
}

func TestP6_6_Moves(t *testing.T) {
	want := ""
	for n := 12; n > 0; n-- {
		want += " ((" + num.Text(int64(n)) + ", \"" + num.Text(int64(n)) + "\"), _)"
	}
	var first machine.Result
	for _, words := range []int{280, 300, 1000, api.MaxWords} {
		for _, every := range []int{0, 1, 2, 7, 1000} {
			x := made(t, words, 100)
			load(t, x, listing(t)...)
			r := x.Run(1e6, 0, every)
			if first.Kind == 0 {
				first = r
			}
			if r != first || r.Kind != api.MDone || " "+told(x) != want {
				t.Error(words, every, r, told(x))
			}
			x.Collect()
			if " "+told(x) != want || x.Global(1) != x.Value() {
				t.Error("collected", told(x))
			}
		}
	}
}

func TestP6_7_P6_8_More(t *testing.T) {
	last := 0
	for words := 100; words < 400; words += 3 {
		x := made(t, words, 100)
		load(t, x, listing(t)...)
		r := x.Run(1e6, 0, 0)
		if last == api.MDone && r.Kind != api.MDone || last == 0 && r.Kind != api.MMemory {
			t.Error(words, r)
		}
		last = r.Kind
	}
	last = 0
	for stack := 16; stack < 100; stack++ {
		x := made(t, 2000, stack)
		load(t, x, listing(t)...)
		r := x.Run(1e6, 0, 0)
		if last == api.MDone && r.Kind != api.MDone || last == 0 && r.Kind != api.MDeep {
			t.Error(stack, r)
		}
		last = r.Kind
	}
	x := made(t, 2000, 100)
	load(t, x, listing(t)...)
	all := x.Run(1e6, 0, 0).Steps
	for _, budget := range []int{0, 1, all / 2, all - 1, all, all + 1} {
		if r := x.Run(budget, 0, 0); r.Steps != min(budget, all) || (r.Kind == api.MDone) != (budget >= all) {
			t.Error(budget, r)
		}
		if r := x.Run(1e6, budget, 0); budget > 0 && (r.Steps != min(budget, all) || (r.Kind == api.MInterrupt) != (budget < all)) {
			t.Error(budget, r)
		}
	}
}
