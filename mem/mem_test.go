package mem_test

import (
	"maps"
	"math"
	"slices"
	"testing"

	"kindling/api"
	"kindling/mem"
)

// made is a new memory.
func made(t *testing.T, words int) *mem.Mem {
	t.Helper()
	m, e := mem.New(words)
	if m == nil || e != api.OK {
		t.Fatal("New", words, e)
	}
	return m
}

// object is a new object.
func object(t *testing.T, m *mem.Mem, kind, size, tagged int) int {
	t.Helper()
	a, e := m.Alloc(kind, size, tagged)
	if e != api.OK {
		t.Fatal("Alloc", kind, size, tagged, e)
	}
	return a
}

// fields are an object's fields.
func fields(m *mem.Mem, a int) []uint64 {
	var l []uint64
	_, size, _, _ := m.Look(a)
	for i := range size {
		w, _ := m.Load(a, i)
		l = append(l, w)
	}
	return l
}

// parts are header's parts that are right.
func parts() [][3]int {
	return [][3]int{
		{1, 1, 1}, {1, 2, 2}, {1, api.MaxSize, api.MaxSize}, {2, 1, 1}, {3, 1, 1}, {3, 7, 7}, {4, 1, 0}, {4, api.MaxSize, 0},
		{5, 0, 0}, {5, 1, 0}, {5, 1, 1}, {5, 9, 4}, {5, api.MaxSize, api.MaxSize}, {5, api.MaxSize, 0},
	}
}

func TestP2_1_P2_10_Header(t *testing.T) {
	for _, p := range parts() {
		h, e := mem.Header(p[0], p[1], p[2])
		if want := 1 | uint64(p[0])<<1 | uint64(p[1])<<4 | uint64(p[2])<<28; h != want || e != api.OK {
			t.Errorf("Header(%v) = %x, %d", p, h, e)
		}
		if k, s, g, ok := mem.Parts(h); k != p[0] || s != p[1] || g != p[2] || !ok {
			t.Errorf("Parts of Header(%v) = %d %d %d %v", p, k, s, g, ok)
		}
	}
	if h, _ := mem.Header(1, 2, 2); h != 0x20000023 {
		t.Errorf("%x", h)
	}
}

func TestP2_1_NoHeader(t *testing.T) {
	for _, p := range [][3]int{
		{0, 1, 1}, {6, 1, 1}, {7, 1, 1}, {-1, 1, 1}, {1, 0, 0}, {1, 2, 1}, {1, 1, 2}, {3, 0, 0}, {3, 2, 1}, {2, 0, 0}, {2, 2, 2}, {2, 1, 0},
		{4, 0, 0}, {4, 2, 1}, {4, 1, 1}, {5, 1, 2}, {5, -1, -1}, {5, 1, -1}, {5, api.MaxSize + 1, 0}, {1, api.MaxSize + 1, api.MaxSize + 1},
		{5, math.MaxInt, math.MaxInt}, {5, math.MinInt, math.MinInt}, {math.MaxInt, 1, 1}, {1 + 8, 1, 1}, {1 << 62, 1, 1},
	} {
		if h, e := mem.Header(p[0], p[1], p[2]); h != 0 || e != api.ErrHead {
			t.Errorf("Header(%v) = %x, %d", p, h, e)
		}
	}
}

func TestP2_1_NoParts(t *testing.T) {
	for _, p := range parts() {
		h, _ := mem.Header(p[0], p[1], p[2])
		for bit := range 64 {
			w := h ^ 1<<bit
			k, s, g, ok := mem.Parts(w)
			back, e := mem.Header(k, s, g)
			if ok && (back != w || e != api.OK) || !ok && (k != 0 || s != 0 || g != 0) {
				t.Errorf("Parts(%x) = %d %d %d %v", w, k, s, g, ok)
			}
			if (bit == 0 || bit >= 52) && ok {
				t.Errorf("Parts(%x): bit %d is wrong", w, bit)
			}
		}
	}
	for _, w := range []uint64{0, 1, 2, 0x20000022, 0x20000033, math.MaxUint64, 1<<52 | 0x20000023} {
		if k, s, g, ok := mem.Parts(w); ok || k != 0 || s != 0 || g != 0 {
			t.Errorf("Parts(%x) = %d %d %d %v", w, k, s, g, ok)
		}
	}
}

func TestP2_2_New(t *testing.T) {
	for _, n := range []int{api.MinWords - 1, api.MaxWords + 1, 0, -64, math.MaxInt, math.MinInt} {
		if m, e := mem.New(n); m != nil || e != api.ErrArg {
			t.Error("New", n, e)
		}
	}
	for _, n := range []int{api.MinWords, 100, api.MaxWords} {
		m := made(t, n)
		if m.Words() != n || m.Half() != 0 || m.Next() != 1 || m.Free() != n {
			t.Error(n, m.Words(), m.Half(), m.Next(), m.Free())
		}
		for a := range m.Objects() {
			t.Error("an object", a)
		}
	}
}

func TestP2_3_Alloc(t *testing.T) {
	m := made(t, 64)
	if a := object(t, m, api.KTuple, 2, 2); a != 1 || m.Next() != 4 || m.Free() != 61 {
		t.Error(a, m.Next(), m.Free())
	}
	if a := object(t, m, api.KCode, 3, 1); a != 4 || !slices.Equal(fields(m, a), []uint64{1, 0, 0}) {
		t.Error(a, fields(m, a))
	}
	if a := object(t, m, api.KBytes, 2, 0); !slices.Equal(fields(m, a), []uint64{0, 0}) {
		t.Error(a, fields(m, a))
	}
	if a := object(t, m, api.KCode, 0, 0); m.Next() != a+1 {
		t.Error("an object without fields", a, m.Next())
	}
	free := m.Free()
	for _, c := range []struct {
		size int
		e    api.Errno
	}{{free, api.ErrFull}, {api.MaxSize, api.ErrFull}, {api.MaxSize + 1, api.ErrHead}, {0, api.ErrHead}, {-1, api.ErrHead}} {
		if a, e := m.Alloc(api.KTuple, c.size, c.size); a != 0 || e != c.e || m.Free() != free {
			t.Error("Alloc", c.size, a, e, m.Free())
		}
	}
	object(t, m, api.KTuple, free-1, free-1)
	if m.Free() != 0 || m.Next() != 65 {
		t.Error("full", m.Free(), m.Next())
	}
	if _, e := m.Alloc(api.KCode, 0, 0); e != api.ErrFull {
		t.Error("more than full", e)
	}
}

func TestP2_4_Fields(t *testing.T) {
	m := made(t, 64)
	a, b := object(t, m, api.KTuple, 2, 2), object(t, m, api.KCode, 3, 1)
	if k, s, g, e := m.Look(b); k != api.KCode || s != 3 || g != 1 || e != api.OK {
		t.Error("Look", k, s, g, e)
	}
	for _, w := range []uint64{0, 9, 2, math.MaxUint64} { // any word, a header's too
		if e := m.Store(a, 1, w); e != api.OK {
			t.Error("Store", e)
		}
		if got, e := m.Load(a, 1); got != w || e != api.OK {
			t.Error("Load", got, e)
		}
		if !slices.Equal(fields(m, a), []uint64{1, w}) || !slices.Equal(fields(m, b), []uint64{1, 0, 0}) {
			t.Error("something else has changed", fields(m, a), fields(m, b))
		}
	}
}

func TestP2_4_NoFields(t *testing.T) {
	m := made(t, 64)
	object(t, m, api.KTuple, 2, 2)
	h, _ := mem.Header(api.KTuple, 1, 1)
	m.Store(1, 0, h) // a field that looks like a header is none
	for _, c := range [][2]int{{1, 2}, {1, -1}, {2, 0}, {3, 0}, {0, 0}, {-1, 0}, {4, 0}, {65, 0}, {66, 0}, {128, 0}, {129, 0}, {math.MaxInt, 0}, {math.MinInt, 0}, {1, math.MaxInt}, {1, math.MinInt}} {
		if w, e := m.Load(c[0], c[1]); w != 0 || e != api.ErrRange {
			t.Error("Load", c, w, e)
		}
		if e := m.Store(c[0], c[1], 7); e != api.ErrRange {
			t.Error("Store", c, e)
		}
		if c[0] != 1 {
			if k, s, g, e := m.Look(c[0]); k != 0 || s != 0 || g != 0 || e != api.ErrRange {
				t.Error("Look", c, e)
			}
		}
	}
	if !slices.Equal(fields(m, 1), []uint64{h, 1}) {
		t.Error("changed", fields(m, 1))
	}
}

func TestP2_5_Objects(t *testing.T) {
	m := made(t, 1000)
	var want []int
	for i := range 60 {
		want = append(want, object(t, m, api.KTuple, 1+i%7, 1+i%7))
	}
	told := m.Objects()
	for range 2 {
		if got := slices.Collect(told); !slices.Equal(got, want) {
			t.Error(got)
		}
		for a := range told {
			if a == want[3] {
				break
			}
		}
	}
	var later []int
	for a := range told { // as they are when each one is told
		if len(later) == 0 {
			want = append(want, object(t, m, api.KRef, 1, 1))
		}
		later = append(later, a)
	}
	if !slices.Equal(later, want) {
		t.Error(later)
	}
	var moved []int
	for a := range told {
		if moved = append(moved, a); len(moved) == 1 {
			m.Flip()
			m.Move(want[5])
		}
	}
	if !slices.Equal(moved, []int{1, 1001}) {
		t.Error(moved)
	}
}

// filled is a memory with as many words as said beside codes of these sizes, and the addresses of these.
func filled(t *testing.T, more int, sizes ...int) (*mem.Mem, []int) {
	t.Helper()
	words := more
	for _, size := range sizes {
		words += 1 + size
	}
	m := made(t, max(words, api.MinWords))
	var l []int
	for _, size := range sizes {
		l = append(l, object(t, m, api.KCode, size, size/2))
	}
	return m, l
}

// only asks whether just these addresses, of all that a memory could have, are those of objects.
func only(t *testing.T, m *mem.Mem, objects []int) {
	t.Helper()
	if got := slices.Collect(m.Objects()); !slices.Equal(got, objects) {
		t.Error("objects", got, objects)
	}
	for a := -1; a <= 2*m.Words()+2; a++ {
		if slices.Contains(objects, a) {
			if _, size, _, e := m.Look(a); e != api.OK || size > 0 && m.Store(a, size-1, 7) != api.OK {
				t.Errorf("%d is an object's: %d", a, e)
			}
			continue
		}
		if k, s, g, e := m.Look(a); k != 0 || s != 0 || g != 0 || e != api.ErrRange {
			t.Errorf("Look(%d) = %d, %d, %d, %d", a, k, s, g, e)
		}
		if w, e := m.Load(a, 0); w != 0 || e != api.ErrRange {
			t.Errorf("Load(%d, 0) = %d, %d", a, w, e)
		}
		if e := m.Store(a, 0, 9); e != api.ErrRange {
			t.Errorf("Store(%d, 0, 9) = %d", a, e)
		}
	}
}

// longSizes are sizes of objects that stand behind one another, some of which are so long that no other one begins for a while.
func longSizes() [][]int {
	return [][]int{
		{62}, {63}, {64}, {65}, {126}, {127}, {128}, {129}, {500}, {1, 61}, {1, 62}, {62, 0}, {63, 0}, {64, 0}, {0, 64}, {0, 128, 0}, {63, 63}, {64, 64, 64},
		{300, 2, 300}, {2, 1000}, {1000, 2}, {api.MaxSize}, {5, api.MaxSize}, {api.MaxSize, 5},
	}
}

func TestP2_4_P2_7_LongObjects(t *testing.T) {
	for _, sizes := range longSizes() {
		for _, more := range []int{0, 1, 200} {
			m, objects := filled(t, more, sizes...)
			only(t, m, objects)
			m.Flip()
			c := m.Copy()
			only(t, m, nil)
			for a := -1; a <= 2*m.Words()+2; a++ {
				if slices.Contains(objects, a) {
					continue
				}
				if to, e := m.Move(a); to != 0 || e != api.ErrRange {
					t.Errorf("%v: Move(%d) = %d, %d", sizes, a, to, e)
				}
			}
			for i := range objects {
				objects[i], _ = m.Move(objects[i])
			}
			only(t, m, objects)
			only(t, m.Copy(), objects)
			only(t, c, nil)
		}
	}
}

func TestP2_6_LongObjectsGone(t *testing.T) {
	m, _ := filled(t, 500, 3, 300, 3)
	m.Flip()
	m.Flip() // the half in use is the one that had the long object
	only(t, m, nil)
	a := object(t, m, api.KTuple, 400, 400)
	only(t, m, []int{a})
	m.Flip()
	if to, e := m.Move(a + 302); to != 0 || e != api.ErrRange { // there an object stood once
		t.Error(to, e)
	}
}

func TestP2_6_Flip(t *testing.T) {
	m := made(t, 64)
	a := object(t, m, api.KTuple, 2, 2)
	if e := m.Flip(); e != api.OK || m.Half() != 1 || m.Next() != 65 || m.Free() != 64 || m.Words() != 64 {
		t.Error(e, m.Half(), m.Next(), m.Free())
	}
	if _, e := m.Load(a, 0); e != api.ErrRange {
		t.Error("Load in the old half", e)
	}
	if e := m.Store(a, 0, 5); e != api.ErrRange {
		t.Error("Store in the old half", e)
	}
	b := object(t, m, api.KRef, 1, 1)
	m.Flip()
	if m.Half() != 0 || m.Next() != 1 || m.Free() != 64 {
		t.Error(m.Half(), m.Next(), m.Free())
	}
	if _, e := m.Move(a); e != api.ErrRange {
		t.Error("what was the old half before is gone", e)
	}
	if got, e := m.Move(b); got != 1 || e != api.OK {
		t.Error("Move", got, e)
	}
}

func TestP2_7_Move(t *testing.T) {
	m := made(t, 64)
	a := object(t, m, api.KTuple, 2, 2)
	b := object(t, m, api.KCode, 3, 1)
	m.Store(a, 1, 9)
	m.Store(b, 2, math.MaxUint64)
	if _, e := m.Move(a); e != api.ErrRange {
		t.Error("Move ahead of Flip", e)
	}
	m.Flip()
	for _, c := range []int{0, -1, 2, 3, 8, 64, 65, 66, 129, math.MaxInt, math.MinInt} {
		if to, e := m.Move(c); to != 0 || e != api.ErrRange {
			t.Error("Move", c, to, e)
		}
	}
	for range 3 { // moved once more it stays where it is
		if to, e := m.Move(b); to != 65 || e != api.OK {
			t.Error("Move", to, e)
		}
	}
	if k, s, g, _ := m.Look(65); k != api.KCode || s != 3 || g != 1 || !slices.Equal(fields(m, 65), []uint64{1, 0, math.MaxUint64}) {
		t.Error(k, s, g, fields(m, 65))
	}
	if to, e := m.Move(a); to != 69 || e != api.OK || !slices.Equal(fields(m, 69), []uint64{1, 9}) || m.Free() != 57 {
		t.Error(to, e, fields(m, 69), m.Free())
	}
}

func TestP2_7_MoveWithoutRoom(t *testing.T) {
	m := made(t, 64)
	a, b := object(t, m, api.KTuple, 9, 9), object(t, m, api.KTuple, 1, 1)
	m.Flip()
	object(t, m, api.KBytes, 54, 0)
	if to, e := m.Move(a); to != 0 || e != api.ErrFull || m.Free() != 9 {
		t.Error(to, e, m.Free())
	}
	if to, e := m.Move(b); to != 120 || e != api.OK {
		t.Error(to, e)
	}
	object(t, m, api.KBytes, 6, 0)
	if to, e := m.Move(b); to != 120 || e != api.OK {
		t.Error("no room is needed for what was moved", to, e)
	}
}

func TestP2_8_Copy(t *testing.T) {
	m := made(t, 64)
	a := object(t, m, api.KTuple, 2, 2)
	m.Store(a, 0, 11)
	m.Flip()
	b := object(t, m, api.KRef, 1, 1)
	c := m.Copy()
	m.Store(b, 0, 5)
	object(t, m, api.KRef, 1, 1)
	if c.Words() != 64 || c.Half() != 1 || c.Next() != 67 || c.Free() != 62 || !slices.Equal(fields(c, b), []uint64{1}) {
		t.Error("the copy has changed")
	}
	m.Move(a)
	if to, e := c.Move(a); to != 67 || e != api.OK || !slices.Equal(fields(c, to), []uint64{11, 1}) {
		t.Error("the copy's old half", to, e)
	}
	c.Store(b, 0, 8)
	if !slices.Equal(fields(m, b), []uint64{5}) {
		t.Error("the first one has changed")
	}
}

func TestP2_9_Nil(t *testing.T) {
	var m *mem.Mem
	if m.Words() != 0 || m.Half() != 0 || m.Next() != 0 || m.Free() != 0 || m.Copy() != nil {
		t.Error("nil")
	}
	for range m.Objects() {
		t.Error("an object")
	}
	if a, e := m.Alloc(0, 0, 0); a != 0 || e != api.ErrNil {
		t.Error("Alloc", e)
	}
	if k, s, g, e := m.Look(1); k != 0 || s != 0 || g != 0 || e != api.ErrNil {
		t.Error("Look", e)
	}
	if w, e := m.Load(1, 0); w != 0 || e != api.ErrNil {
		t.Error("Load", e)
	}
	if e := m.Store(1, 0, 0); e != api.ErrNil {
		t.Error("Store", e)
	}
	if e := m.Flip(); e != api.ErrNil {
		t.Error("Flip", e)
	}
	if a, e := m.Move(1); a != 0 || e != api.ErrNil {
		t.Error("Move", e)
	}
}

func TestP1_NoMemoryAtAll(t *testing.T) {
	var m mem.Mem
	m.Flip()
	if _, e := m.Alloc(api.KRef, 1, 1); e != api.ErrFull {
		t.Error(e)
	}
	for range m.Objects() {
		t.Error("an object")
	}
	m.Copy()
	if _, e := m.Move(1); e != api.ErrRange {
		t.Error(e)
	}
}

func TestP2_11_NoGap(t *testing.T) {
	m := made(t, 2000)
	at, held := 1, map[int][]uint64{}
	for i := range 100 {
		size := 1 + i*i%23
		if a := object(t, m, api.KTuple, size, size); a != at {
			t.Fatal("a gap", a, at)
		}
		held[at] = fields(m, at)
		at += size + 1
	}
	if m.Next() != at || m.Free() != 2000-at+1 {
		t.Error(m.Next(), m.Free())
	}
	for i, a := range slices.Collect(m.Objects()) {
		f := i % len(held[a])
		m.Store(a, f, uint64(i)*3+2)
		held[a][f] = uint64(i)*3 + 2
	}
	for a, want := range held {
		if !slices.Equal(fields(m, a), want) {
			t.Error(a, fields(m, a), want)
		}
	}
}

func TestP2_12_MovedIsWhatItWas(t *testing.T) {
	m := made(t, 1000)
	held := map[int][]uint64{}
	for i := range 50 {
		a := object(t, m, api.KCode, i%9, i%9/2)
		for f := range i % 9 {
			m.Store(a, f, uint64(i*100+f))
		}
		held[a] = fields(m, a)
	}
	m.Flip()
	for a, want := range held {
		to, e := m.Move(a)
		if e != api.OK || !slices.Equal(fields(m, to), want) {
			t.Error(a, to, e)
		}
		if again, _ := m.Move(a); again != to {
			t.Error("moved twice", a, to, again)
		}
	}
}

// plain is what a memory holds, told by maps: the fields of each object of both halves, and where what was moved stands.
type plain struct {
	next    int
	objects [2]map[int][]uint64 // of the half in use, of the old one
	moved   map[int]int
}

func (p *plain) add(l []uint64) int {
	a := p.next
	p.objects[0][a] = slices.Clone(l)
	p.next += 1 + len(l)
	return a
}

// hold asks whether a memory tells of each address what the plain one does.
func (p *plain) hold(t *testing.T, m *mem.Mem) {
	t.Helper()
	if m.Next() != p.next {
		t.Fatal("Next", m.Next(), p.next)
	}
	for a := 0; a <= 2*m.Words()+1; a++ {
		want, ok := p.objects[0][a]
		_, size, _, e := m.Look(a)
		if ok != (e == api.OK) || !ok && e != api.ErrRange || !slices.Equal(fields(m, a), want) || size != len(want) {
			t.Fatal(a, size, e, want)
		}
	}
}

func TestP2_3_P2_7_Walk(t *testing.T) {
	const words = 400
	x := uint64(1)
	chance := func(n int) int {
		x = x*6364136223846793005 + 1442695040888963407
		return int(x >> 33 % uint64(n))
	}
	m := made(t, words)
	p := &plain{next: 1, objects: [2]map[int][]uint64{{}, {}}, moved: map[int]int{}}
	for range 3000 {
		switch how := chance(20); {
		case how < 8:
			size := []int{0, 1, 2, 63, 64, 65, chance(200)}[chance(7)]
			free := m.Free()
			if _, e := m.Alloc(api.KCode, size, 0); (e == api.OK) != (size < free) {
				t.Fatal("Alloc", size, free, e)
			} else if e == api.OK {
				p.add(make([]uint64, size))
			}
		case how < 12:
			a, i := chance(2*words+2), chance(9)
			l, ok := p.objects[0][a]
			if e := m.Store(a, i, x); (e == api.OK) != (ok && i < len(l)) {
				t.Fatal("Store", a, i, e)
			} else if e == api.OK {
				l[i] = x
			}
		case how < 18:
			p.move(t, m, chance(2*words+2))
			for _, a := range slices.Sorted(maps.Keys(p.objects[1])) {
				if chance(3) == 0 {
					p.move(t, m, a)
				}
			}
		case how < 19:
			m = m.Copy()
		default:
			m.Flip()
			p = &plain{next: m.Half()*words + 1, objects: [2]map[int][]uint64{{}, p.objects[0]}, moved: map[int]int{}}
		}
		p.hold(t, m)
	}
}

// move moves in both of them.
func (p *plain) move(t *testing.T, m *mem.Mem, a int) {
	t.Helper()
	l, ok := p.objects[1][a]
	to, again := p.moved[a]
	free := m.Free()
	got, e := m.Move(a)
	switch {
	case !ok && (got != 0 || e != api.ErrRange), again && (got != to || e != api.OK), ok && !again && (e == api.OK) != (len(l) < free):
		t.Fatal("Move", a, got, e)
	case ok && !again && e == api.OK:
		if p.moved[a] = p.add(l); p.moved[a] != got {
			t.Fatal("Move", a, got, p.moved[a])
		}
	}
}
