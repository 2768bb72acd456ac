package checks

import (
	"slices"
	"strings"
	"testing"

	"kindling/anf"
	"kindling/api"
	"kindling/codegen"
	"kindling/core"
	"kindling/isa"
	"kindling/machine"
	"kindling/mem"
	"kindling/num"
	"kindling/rts"
)

// read is what a word stands for in a memory, as the models have values; functions are alike.
func read(m *mem.Mem, w uint64) value {
	if num.IsInt(w) {
		return num.ToInt(w)
	}
	a := num.ToPtr(w)
	kind, size, _, _ := m.Look(a)
	switch kind {
	case api.KBytes:
		s, _ := rts.GetText(m, w)
		return s
	case api.KClosure:
		return &closure{}
	}
	var l []value
	for i := range size {
		w, _ := m.Load(a, i)
		l = append(l, read(m, w))
	}
	if kind == api.KRef {
		return &cell{l[0]}
	}
	return &tup{l}
}

// coded makes codes of functions, which must be sound.
func coded(t *testing.T, l []api.Func) []api.Code {
	t.Helper()
	codes, e := codegen.Gen(l)
	if e != api.OK || len(codes) < len(l) || !codegen.Sound(codes) {
		t.Fatalf("%d\n%s", e, anf.Text(l))
	}
	return codes
}

// linked tells whether a global is named by an atom and by an SPut.
func linked(l []api.Func) bool {
	_, e := codegen.Gen(l)
	return e == api.ErrLink
}

// loaded is a machine into which codes are loaded.
func loaded(t *testing.T, words, stack int, codes []api.Code) *machine.Machine {
	t.Helper()
	x, _ := machine.New(words, stack)
	if e := x.Load(codes); e != api.OK {
		t.Fatal("Load", e)
	}
	return x
}

// setGlobals is a code that makes the globals what someGlobals says.
func setGlobals(x *machine.Machine) {
	l, _, _ := isa.Read("int r2 10\nput r2 0\nint r2 20\nput r2 1\nint r2 30\nput r2 2\nreturn r2\n")
	x.Load([]api.Code{{Ins: l}})
	x.Run(100, 0, 0)
}

// runs asks that the codes of functions do what these do.
func runs(t *testing.T, l []api.Func, every int) int {
	t.Helper()
	f := &anfModel{clock: &clock{budget}, globals: someGlobals(), funcs: l}
	v, how := outcome(f.run)
	if how == isStuck || how == isLate {
		return how
	}
	x, _ := machine.New(api.MaxWords, api.MaxStack)
	setGlobals(x)
	codes := coded(t, l)
	if e := x.Load(codes); e != api.OK {
		t.Fatal(e)
	}
	r := x.Run(100*budget, 0, every)
	m := x.Memory()
	if r.Kind != []int{done: api.MDone, raised: api.MRaised}[how] || !alike(v, read(m, x.Value())) {
		t.Errorf("%s%sends %d %v, not %d %v", anf.Text(l), codegen.Text(codes), r.Kind, read(m, x.Value()), how, v)
	}
	for n, w := range f.globals {
		if !alike(w, read(m, x.Global(n))) {
			t.Errorf("%sglobal %d is %v, not %v", anf.Text(l), n, read(m, x.Global(n)), w)
		}
	}
	return how
}

// apart is an expression whose CPuts name other globals than its CGlobals.
func apart(c api.Core) api.Core {
	if c.Kind == api.CPut {
		c.N += 10
	}
	l := slices.Clone(c.L)
	for i := range l {
		l[i] = apart(l[i])
	}
	c.L = l
	return c
}

func TestP12_1_ByChance(t *testing.T) {
	var ended [4]int
	for seed := range uint64(6000) {
		g := &cgen{gen: gen{x: seed}, wild: seed%3 == 0}
		c := g.core(5)
		l, _ := anf.Flatten(c)
		puts := strings.Contains(core.Text(c), "(put $")
		if linked(l) && !puts {
			t.Fatal("no global is put", core.Text(c))
		}
		l, _ = anf.Flatten(apart(c))
		ended[runs(t, l, int(seed%4))]++
		if t.Failed() {
			t.Fatal("seed", seed)
		}
	}
	if ended[done] < 1000 || ended[raised] < 100 {
		t.Error("too few", ended)
	}
}
