package gc_test

import (
	"math"
	"slices"
	"testing"

	"kindling/api"
	"kindling/gc"
	"kindling/mem"
	"kindling/num"
)

// made is a new memory.
func made(t *testing.T, words int) *mem.Mem {
	t.Helper()
	m, e := mem.New(words)
	if e != api.OK {
		t.Fatal("New", e)
	}
	return m
}

// object is a new object with these fields.
func object(t *testing.T, m *mem.Mem, kind, tagged int, l ...uint64) int {
	t.Helper()
	a, e := m.Alloc(kind, len(l), tagged)
	if e != api.OK {
		t.Fatal("Alloc", e)
	}
	for i, w := range l {
		m.Store(a, i, w)
	}
	return a
}

// state is all that a memory tells.
func state(m *mem.Mem) []uint64 {
	l := []uint64{uint64(m.Half()), uint64(m.Next())}
	for a := range m.Objects() {
		k, s, g, _ := m.Look(a)
		l = append(l, uint64(a), uint64(k), uint64(s), uint64(g))
		for i := range s {
			w, _ := m.Load(a, i)
			l = append(l, w)
		}
	}
	return l
}

// graph is what is found from the roots, told without addresses: each object by its number in the order in which it is met.
func graph(m *mem.Mem, roots []uint64) []uint64 {
	number := map[int]int{}
	var met []int
	var out []uint64
	tell := func(w uint64) {
		if num.IsInt(w) {
			out = append(out, w)
			return
		}
		a := num.ToPtr(w)
		if _, ok := number[a]; !ok {
			number[a] = len(met)
			met = append(met, a)
		}
		out = append(out, uint64(number[a])<<1)
	}
	for _, w := range roots {
		tell(w)
	}
	for i := 0; i < len(met); i++ {
		k, s, g, _ := m.Look(met[i])
		out = append(out, uint64(k), uint64(s), uint64(g))
		for f := range s {
			w, _ := m.Load(met[i], f)
			if f < g {
				tell(w)
			} else {
				out = append(out, w)
			}
		}
	}
	return out
}

// web is a memory with many objects that lead to one another, and roots.
func web(t *testing.T, seed uint64) (*mem.Mem, []uint64) {
	m := made(t, 3000)
	x := seed*2862933555777941757 + 3037000493
	next := func(n int) int {
		x ^= x << 13
		x ^= x >> 7
		x ^= x << 17
		return int(x>>20) % n
	}
	var all []int
	for range 150 {
		switch next(5) {
		case 0:
			all = append(all, object(t, m, api.KRef, 1, num.Int(0)))
		case 1:
			all = append(all, object(t, m, api.KBytes, 0, 2, 4, 8)) // no words of objects: they are not tagged
		case 2:
			all = append(all, object(t, m, api.KCode, 1, num.Int(5), 2))
		default:
			all = append(all, object(t, m, api.KTuple, 3, num.Int(1), num.Int(2), num.Int(3)))
		}
	}
	for _, a := range all {
		_, _, g, _ := m.Look(a)
		for f := range g {
			if next(3) > 0 {
				m.Store(a, f, num.Ptr(all[next(len(all))]))
			}
		}
	}
	roots := []uint64{num.Int(7)}
	for range 1 + next(4) {
		roots = append(roots, num.Ptr(all[next(len(all))]), num.Int(int64(next(9))))
	}
	return m, roots
}

func TestP4_1_Check(t *testing.T) {
	m := made(t, 64)
	a := object(t, m, api.KTuple, 2, num.Int(5), num.Int(6))
	if e := gc.Check(nil, nil); e != api.ErrNil {
		t.Error(e)
	}
	for _, roots := range [][]uint64{nil, {num.Int(0)}, {num.Ptr(a)}, {num.Ptr(a), num.Int(-1), num.Ptr(a)}} {
		if e := gc.Check(m, roots); e != api.OK {
			t.Error(roots, e)
		}
	}
	for _, w := range []uint64{0, num.Ptr(a + 1), num.Ptr(40), num.Ptr(65), num.Ptr(api.MaxAddr), math.MaxUint64 - 1, 1 << 63} {
		if e := gc.Check(m, []uint64{num.Int(1), num.Ptr(a), w}); e != api.ErrWord {
			t.Errorf("%x: %d", w, e)
		}
		m.Store(a, 1, w)
		if e := gc.Check(m, []uint64{num.Ptr(a)}); e != api.ErrWord {
			t.Errorf("%x in a field: %d", w, e)
		}
		if e := gc.Check(m, nil); e != api.OK {
			t.Errorf("%x can not be reached: %d", w, e)
		}
		b := object(t, m, api.KBytes, 0, w)
		if e := gc.Check(m, []uint64{num.Ptr(b)}); e != api.OK {
			t.Errorf("%x is not tagged: %d", w, e)
		}
		b = object(t, m, api.KRef, 1, num.Ptr(a))
		if e := gc.Check(m, []uint64{num.Ptr(b)}); e != api.ErrWord {
			t.Errorf("%x further on: %d", w, e)
		}
	}
}

func TestP4_1_InLongObjects(t *testing.T) {
	for _, size := range []int{63, 64, 65, 200} {
		m := made(t, 300)
		a := object(t, m, api.KRef, 1, num.Int(0))
		b := object(t, m, api.KBytes, 0, make([]uint64, size)...)
		for in := b + 1; in <= m.Next(); in++ {
			w := num.Ptr(in)
			m.Store(a, 0, w)
			for _, roots := range [][]uint64{{w}, {num.Ptr(a)}} {
				before := state(m)
				if e := gc.Check(m, roots); e != api.ErrWord {
					t.Error(size, in, e)
				}
				if n, e := gc.Live(m, roots); n != 0 || e != api.ErrWord {
					t.Error(size, in, n, e)
				}
				if l, e := gc.Collect(m, roots); len(l) != 0 || e != api.ErrWord || !slices.Equal(state(m), before) {
					t.Error(size, in, l, e)
				}
				for reached := range gc.Reach(m, roots) {
					t.Error(size, in, reached)
				}
			}
		}
	}
}

func TestP4_2_Reach(t *testing.T) {
	m := made(t, 64)
	a := object(t, m, api.KTuple, 2, num.Int(0), num.Int(0))
	b := object(t, m, api.KTuple, 3, num.Int(0), num.Ptr(a), num.Int(0))
	c := object(t, m, api.KRef, 1, num.Ptr(b))
	d := object(t, m, api.KTuple, 2, num.Ptr(c), num.Ptr(a))
	e := object(t, m, api.KRef, 1, num.Ptr(d))
	m.Store(b, 0, num.Ptr(b))
	reach := gc.Reach(m, []uint64{num.Int(3), num.Ptr(d), num.Ptr(b), num.Ptr(d)})
	m.Store(d, 0, num.Ptr(e)) // as it was when Reach was called
	for range 2 {
		if l := slices.Collect(reach); !slices.Equal(l, []int{d, b, c, a}) {
			t.Error(l)
		}
		for got := range reach {
			if got == b {
				break
			}
		}
	}
	for _, roots := range [][]uint64{nil, {num.Int(1)}, {num.Ptr(d), 0}, {num.Ptr(d + 1)}} {
		for got := range gc.Reach(m, roots) {
			t.Error(roots, got)
		}
	}
	for range gc.Reach(nil, []uint64{2}) {
		t.Error("of a nil memory")
	}
}

func TestP4_3_Live(t *testing.T) {
	m := made(t, 64)
	a := object(t, m, api.KTuple, 2, num.Int(5), num.Ptr(1))
	b := object(t, m, api.KBytes, 0, 7, 8, 9)
	for _, c := range []struct {
		roots []uint64
		n     int
		e     api.Errno
	}{
		{nil, 0, api.OK}, {[]uint64{num.Ptr(a)}, 3, api.OK}, {[]uint64{num.Ptr(a), num.Ptr(b), num.Ptr(a)}, 7, api.OK}, {[]uint64{num.Ptr(a), 0}, 0, api.ErrWord},
	} {
		if n, e := gc.Live(m, c.roots); n != c.n || e != c.e {
			t.Error(c.roots, n, e)
		}
	}
	if n, e := gc.Live(nil, nil); n != 0 || e != api.ErrNil {
		t.Error(n, e)
	}
}

func TestP4_4_Collect(t *testing.T) {
	m := made(t, 64)
	object(t, m, api.KTuple, 2, num.Int(5), num.Ptr(1))
	object(t, m, api.KTuple, 1, num.Int(7))
	l, e := gc.Collect(m.Copy(), []uint64{num.Ptr(1)})
	if !slices.Equal(l, []uint64{num.Ptr(65)}) || e != api.OK {
		t.Error(l, e)
	}
	roots := []uint64{num.Ptr(4), num.Int(9), num.Ptr(1), num.Ptr(4)}
	l, e = gc.Collect(m, roots)
	if !slices.Equal(l, []uint64{num.Ptr(65), num.Int(9), num.Ptr(67), num.Ptr(65)}) || e != api.OK {
		t.Error(l, e)
	}
	want := []uint64{1, 70, 65, api.KTuple, 1, 1, num.Int(7), 67, api.KTuple, 2, 2, num.Int(5), num.Ptr(67)}
	if got := state(m); !slices.Equal(got, want) || m.Free() != 59 {
		t.Error(got)
	}
	if !slices.Equal(roots, []uint64{num.Ptr(4), num.Int(9), num.Ptr(1), num.Ptr(4)}) { // P4.8
		t.Error("the roots have changed", roots)
	}
	l[1] = 0
	if l, e := gc.Collect(m, nil); len(l) != 0 || e != api.OK || m.Free() != 64 || m.Half() != 0 {
		t.Error("without roots all is forgotten", l, e)
	}
}

func TestP4_4_NotCollected(t *testing.T) {
	m := made(t, 64)
	a := object(t, m, api.KTuple, 2, num.Int(5), 0)
	b := object(t, m, api.KRef, 1, num.Ptr(a))
	was := state(m)
	for _, roots := range [][]uint64{{num.Ptr(a)}, {num.Ptr(b)}, {num.Int(1), 0}, {num.Ptr(2)}} {
		if l, e := gc.Collect(m, roots); len(l) != 0 || e != api.ErrWord {
			t.Error(l, e)
		}
		if !slices.Equal(state(m), was) {
			t.Error("changed")
		}
	}
	if l, e := gc.Collect(nil, nil); len(l) != 0 || e != api.ErrNil {
		t.Error(l, e)
	}
}

func TestP4_5_Graph(t *testing.T) {
	for seed := range uint64(60) {
		m, roots := web(t, seed)
		kept := slices.Clone(roots)
		want := graph(m, roots)
		order := slices.Collect(gc.Reach(m, roots))
		live, _ := gc.Live(m, roots)
		l, e := gc.Collect(m, roots)
		if e != api.OK || !slices.Equal(graph(m, l), want) {
			t.Fatal("the graph is another one", seed, e)
		}
		if m.Free() != m.Words()-live { // P4.6
			t.Error("Free", m.Free(), live)
		}
		moved := slices.Collect(m.Objects())
		if len(moved) != len(order) || !slices.Equal(slices.Collect(gc.Reach(m, l)), moved) {
			t.Error("they do not lie in their order", seed)
		}
		if !slices.Equal(kept, roots) {
			t.Error("the roots have changed")
		}
		first := m.Half()*m.Words() + 1
		again, _ := gc.Collect(m, l) // P4.7
		second := m.Half()*m.Words() + 1
		if !slices.Equal(graph(m, again), want) {
			t.Error("once more", seed)
		}
		for i, a := range slices.Collect(m.Objects()) {
			if a-second != moved[i]-first {
				t.Error("as far from the half's first address", a, moved[i])
			}
		}
	}
}

func TestP4_4_FullMemory(t *testing.T) {
	m := made(t, 64)
	last := num.Int(0)
	for range 32 {
		last = num.Ptr(object(t, m, api.KRef, 1, last))
	}
	for range 3 {
		l, e := gc.Collect(m, []uint64{last})
		if e != api.OK || m.Free() != 0 {
			t.Fatal(e, m.Free())
		}
		last = l[0]
	}
}
