package rts_test

import (
	"math"
	"slices"
	"strings"
	"testing"

	"kindling/api"
	"kindling/gc"
	"kindling/mem"
	"kindling/num"
	"kindling/rts"
)

// heap is a memory for a test, in which objects are made without asking for errors.
type heap struct {
	*mem.Mem
	t *testing.T
}

func newHeap(t *testing.T, words int) heap {
	t.Helper()
	m, e := mem.New(words)
	if e != api.OK {
		t.Fatal(e)
	}
	return heap{m, t}
}

func (h heap) object(kind int, l ...uint64) uint64 {
	h.t.Helper()
	tagged := len(l)
	if kind == api.KBytes {
		tagged = 0
	}
	a, e := h.Alloc(kind, len(l), tagged)
	if e != api.OK {
		h.t.Fatal(e)
	}
	for i, w := range l {
		h.Store(a, i, w)
	}
	return num.Ptr(a)
}

func (h heap) tuple(l ...uint64) uint64 { return h.object(api.KTuple, l...) }

func (h heap) con(tag int64, w uint64) uint64 { return h.tuple(num.Int(tag), w) }

func (h heap) list(l ...uint64) uint64 {
	w := num.Int(0)
	for _, x := range slices.Backward(l) {
		w = h.con(1, h.tuple(x, w))
	}
	return w
}

func (h heap) text(s string) uint64 {
	h.t.Helper()
	w, e := rts.PutText(h.Mem, s)
	if e != api.OK {
		h.t.Fatal(e)
	}
	return w
}

// con is a constructor's type.
func con(stamp int, name string, l ...api.Type) api.Type {
	return api.Type{Kind: api.KCon, N: stamp, Name: name, L: l}
}

func variable(n int) api.Type { return api.Type{Kind: api.KVar, N: n} }

func whole() api.Type                 { return con(api.SInt, "int") }
func unit() api.Type                  { return con(api.SUnit, "unit") }
func text() api.Type                  { return con(api.SString, "string") }
func boolean() api.Type               { return con(api.SBool, "bool") }
func pair(l ...api.Type) api.Type     { return con(api.STuple, "*", l...) }
func refTo(t api.Type) api.Type       { return con(api.SRef, "ref", t) }
func listOf(t api.Type) api.Type      { return con(api.SList, "list", t) }
func function(a, b api.Type) api.Type { return con(api.SArrow, "->", a, b) }

// show is Show with the makers that are there from the beginning and these.
func (h heap) show(w uint64, t api.Type, more ...api.Maker) string {
	return rts.Show(h.Mem, w, t, append(rts.Makers(), more...))
}

func TestP5_1_PutText(t *testing.T) {
	h := newHeap(t, 64)
	if w := h.text("abc"); w != num.Ptr(1) {
		t.Error(w)
	}
	if k, s, g, _ := h.Look(1); k != api.KBytes || s != 2 || g != 0 {
		t.Error(k, s, g)
	}
	if n, _ := h.Load(1, 0); n != 3 {
		t.Error(n)
	}
	if w, _ := h.Load(1, 1); w != 0x636261 {
		t.Errorf("%x", w)
	}
	if k, s, _, _ := h.Look(num.ToPtr(h.text(""))); k != api.KBytes || s != 1 {
		t.Error("the empty text", k, s)
	}
	free := h.Free()
	if w, e := rts.PutText(h.Mem, strings.Repeat("x", 8*(free-2)+1)); w != 0 || e != api.ErrFull || h.Free() != free {
		t.Error(w, e)
	}
	if w, e := rts.PutText(h.Mem, strings.Repeat("x", 8*(free-2))); w == 0 || e != api.OK || h.Free() != 0 {
		t.Error(w, e)
	}
	if w, e := rts.PutText(h.Mem, strings.Repeat("x", 8*(api.MaxSize-1)+1)); w != 0 || e != api.ErrLong {
		t.Error(w, e)
	}
	if w, e := rts.PutText(nil, strings.Repeat("x", 8*api.MaxSize)); w != 0 || e != api.ErrNil {
		t.Error(w, e)
	}
	h = newHeap(t, api.MaxWords)
	long := strings.Repeat("xyz", 8*api.MaxSize)[:8*(api.MaxSize-1)]
	if s, e := rts.GetText(h.Mem, h.text(long)); s != long || e != api.OK {
		t.Error(len(s), e)
	}
}

func TestP5_1_P5_5_GetText(t *testing.T) {
	h := newHeap(t, 1000)
	for _, s := range []string{"", "a", "abcdefgh", "abcdefghi", "\x00\x00", "\xff\x80\n"} {
		if got, e := rts.GetText(h.Mem, h.text(s)); got != s || e != api.OK {
			t.Errorf("%q: %q %d", s, got, e)
		}
	}
	if _, e := rts.GetText(nil, 2); e != api.ErrNil {
		t.Error(e)
	}
	for _, w := range []uint64{0, num.Int(1), num.Int(0), num.Ptr(2), num.Ptr(1001), num.Ptr(900), math.MaxUint64 - 1} {
		if s, e := rts.GetText(h.Mem, w); s != "" || e != api.ErrWord {
			t.Errorf("%x: %q %d", w, s, e)
		}
	}
	for _, w := range []uint64{
		h.tuple(num.Int(1)), h.object(api.KRef, num.Int(1)), h.object(api.KClosure, num.Int(1)), h.object(api.KCode),
		h.object(api.KBytes, 1), h.object(api.KBytes, 0, 0), h.object(api.KBytes, 9, 1), h.object(api.KBytes, 8, 1, 0), h.object(api.KBytes, 1, 0x100),
		h.object(api.KBytes, math.MaxUint64), h.object(api.KBytes, 1<<63, 0), h.object(api.KBytes, math.MaxInt64-6),
	} {
		if s, e := rts.GetText(h.Mem, w); s != "" || e != api.ErrKind {
			t.Errorf("%x: %q %d", w, s, e)
		}
	}
	w := h.text("old")
	h.Flip()
	if s, e := rts.GetText(h.Mem, w); s != "" || e != api.ErrWord {
		t.Error("in the old half", s, e)
	}
}

func TestP5_1_P5_2_P5_4_InLongTexts(t *testing.T) {
	h := newHeap(t, 300)
	long := h.text(strings.Repeat("x", 8*200))
	for a := num.ToPtr(long) + 1; a <= h.Next(); a++ {
		w := num.Ptr(a)
		if s, e := rts.GetText(h.Mem, w); s != "" || e != api.ErrWord {
			t.Errorf("%d: %q %d", a, s, e)
		}
		h.same(w, long, 9, 0, 0, api.ErrWord)
		for _, by := range []api.Type{text(), refTo(whole()), pair(whole(), whole()), function(whole(), whole()), con(api.SExn, "exn")} {
			if s := h.show(w, by); s != "?" {
				t.Error(a, by.Name, s)
			}
		}
		if s := h.show(w, listOf(whole())); s != "[?]" {
			t.Error(a, s)
		}
	}
}

// same holds two words against each other, both ways round.
func (h heap) same(a, b uint64, most, how, steps int, e api.Errno) {
	h.t.Helper()
	for _, p := range [][2]uint64{{a, b}, {b, a}} {
		if k, n, f := rts.Same(h.Mem, p[0], p[1], most); k != how || n != steps || f != e {
			h.t.Errorf("Same(%x, %x, %d) = %d, %d, %d, not %d, %d, %d", p[0], p[1], most, k, n, f, how, steps, e)
		}
	}
}

func TestP5_2_P5_6_Pairs(t *testing.T) {
	h := newHeap(t, 1000)
	one, two := num.Int(1), num.Int(2)
	h.same(one, one, 9, rts.Alike, 1, api.OK)
	h.same(one, two, 9, rts.Unlike, 1, api.OK)
	h.same(one, h.tuple(one), 9, rts.Unlike, 1, api.OK)
	h.same(one, h.object(api.KClosure, one), 9, rts.Unlike, 1, api.OK)
	h.same(h.tuple(one), h.object(api.KClosure, one), 9, rts.Function, 1, api.OK)
	h.same(h.object(api.KCode), h.object(api.KRef, one), 9, rts.Function, 1, api.OK)
	f := h.object(api.KClosure, one)
	h.same(f, f, 9, rts.Function, 1, api.OK)
	h.same(h.tuple(one), h.object(api.KRef, one), 9, rts.Unlike, 1, api.OK)
	h.same(h.tuple(one), h.object(api.KBytes, one), 9, rts.Unlike, 1, api.OK)
	r := h.object(api.KRef, num.Int(5))
	h.same(r, r, 9, rts.Alike, 1, api.OK)
	h.same(r, h.object(api.KRef, num.Int(5)), 9, rts.Unlike, 1, api.OK)
	h.same(h.text("abcdefghij"), h.text("abcdefghij"), 9, rts.Alike, 1, api.OK)
	h.same(h.text("abcdefghij"), h.text("abcdefghik"), 9, rts.Unlike, 1, api.OK)
	h.same(h.text("ab"), h.text("abc"), 9, rts.Unlike, 1, api.OK)
	h.same(h.text("ab"), h.text("abcdefghijkl"), 9, rts.Unlike, 1, api.OK)
	h.same(h.text("a"), h.text("a\x00"), 9, rts.Unlike, 1, api.OK)
	h.same(h.tuple(one, two), h.tuple(one, two), 9, rts.Alike, 3, api.OK)
	h.same(h.tuple(one, two), h.tuple(one, two), 2, rts.Late, 2, api.OK)
	h.same(h.tuple(one, two), h.tuple(one, two), 3, rts.Alike, 3, api.OK)
	h.same(h.tuple(one, two), h.tuple(two, two), 9, rts.Unlike, 2, api.OK)
	h.same(h.tuple(one, two), h.tuple(one, two, one), 9, rts.Unlike, 1, api.OK)
	p := h.tuple(one, two)
	h.same(p, p, 9, rts.Alike, 3, api.OK)
}

func TestP5_2_Order(t *testing.T) {
	h := newHeap(t, 1000)
	one, two := num.Int(1), num.Int(2)
	f := h.object(api.KClosure, one)
	h.same(h.tuple(h.tuple(one, f), two), h.tuple(h.tuple(one, f), one), 9, rts.Function, 4, api.OK)
	h.same(h.tuple(two, f), h.tuple(one, f), 9, rts.Unlike, 2, api.OK)
	h.same(h.tuple(h.tuple(one, one), h.tuple(two)), h.tuple(h.tuple(one, one), h.tuple(one)), 9, rts.Unlike, 6, api.OK)
	h.same(h.tuple(h.tuple(one, one), h.tuple(two)), h.tuple(h.tuple(one, one), h.tuple(one)), 5, rts.Late, 5, api.OK)
	for _, most := range []int{0, -1, math.MinInt} {
		h.same(one, one, most, rts.Late, 0, api.OK)
		h.same(0, one, most, rts.Late, 0, api.OK)
	}
	h.same(one, one, math.MaxInt, rts.Alike, 1, api.OK)
}

func TestP5_2_NoWords(t *testing.T) {
	h := newHeap(t, 64)
	p := h.tuple(num.Int(1), 0)
	for _, w := range []uint64{0, num.Ptr(2), num.Ptr(60), 1 << 63} {
		h.same(w, num.Int(1), 9, 0, 0, api.ErrWord)
		h.same(w, p, 9, 0, 0, api.ErrWord)
		h.same(w, w, 9, 0, 0, api.ErrWord)
	}
	h.same(p, p, 9, 0, 0, api.ErrWord)
	h.same(p, p, 2, rts.Late, 2, api.OK)
	h.same(p, h.tuple(num.Int(2), 0), 9, rts.Unlike, 2, api.OK)
	if k, n, e := rts.Same(nil, 1, 1, 9); k != 0 || n != 0 || e != api.ErrNil {
		t.Error(k, n, e)
	}
}

func TestP5_2_Endless(t *testing.T) {
	h := newHeap(t, 64)
	a, b := h.tuple(num.Int(1), num.Int(0)), h.tuple(num.Int(1), num.Int(0))
	h.Store(num.ToPtr(a), 1, b)
	h.Store(num.ToPtr(b), 1, a)
	h.same(a, b, 100001, rts.Late, 100001, api.OK)
}

func TestP5_3_Quote(t *testing.T) {
	for _, c := range [][2]string{
		{"", `""`}, {"abc", `"abc"`}, {"a\n\tb", `"a\n\tb"`}, {`"\`, `"\"\\"`}, {"\x00\x1f\x7f\xff\r", `"\x00\x1F\x7F\xFF\x0D"`}, {" ~", `" ~"`}, {"é", `"\xC3\xA9"`},
	} {
		if s := rts.Quote(c[0]); s != c[1] {
			t.Errorf("%q: %s", c[0], s)
		}
	}
}

func TestP5_3_Makers(t *testing.T) {
	l := rts.Makers()
	var names []string
	for _, k := range l {
		names = append(names, k.Name)
	}
	if !slices.Equal(names, []string{"false", "true", "nil", "::", "Match", "Bind", "Div", "Chr", "Subscript", "Equal"}) {
		t.Fatal(names)
	}
	for i, k := range l {
		tag, has, vars := i, k.Name == "::", 0
		stamp, name := api.SBool, "bool"
		switch {
		case i >= 4:
			tag, stamp, name = i-4, api.SExn, "exn"
		case i >= 2:
			tag, stamp, name, vars = i-2, api.SList, "list", 1
		}
		if k.Tag != tag || k.Has != has || k.Vars != vars || k.Type.Kind != api.KCon || k.Type.N != stamp || k.Type.Name != name || len(k.Type.L) != vars || has != (k.Arg.Kind != 0) {
			t.Error(k)
		}
	}
	arg := l[3].Arg
	if arg.Kind != api.KCon || arg.N != api.STuple || arg.Name != "*" || len(arg.L) != 2 || arg.L[0].Kind != api.KVar || arg.L[0].N != 0 || arg.L[1].N != api.SList || arg.L[1].L[0].Kind != api.KVar {
		t.Error(arg)
	}
	l[2].Type.L[0].N, l[3].Arg.L[1].L[0].N, l[0].Name = 9, 9, "x" // it is new memory
	if m := rts.Makers(); m[2].Type.L[0].N != 0 || m[3].Arg.L[1].L[0].N != 0 || m[3].Type.L[0].N != 0 || m[0].Name != "false" {
		t.Error("what is answered is kept", m)
	}
}

func TestP5_4_Values(t *testing.T) {
	h := newHeap(t, 1000)
	five := num.Int(5)
	fn := h.object(api.KClosure, num.Int(0))
	for _, c := range []struct {
		w uint64
		t api.Type
		s string
	}{
		{five, whole(), "5"}, {num.Int(-7), whole(), "-7"}, {num.Int(api.MinInt), whole(), "-4611686018427387904"},
		{num.Int(0), unit(), "()"}, {h.text("a\"b\n"), text(), `"a\"b\n"`}, {fn, function(whole(), unit()), "fn"},
		{h.tuple(five, num.Int(1)), pair(whole(), boolean()), "(5, true)"}, {h.object(api.KRef, five), refTo(whole()), "ref 5"},
		{h.object(api.KRef, h.object(api.KRef, five)), refTo(refTo(whole())), "ref (ref 5)"},
		{h.tuple(h.object(api.KRef, five), num.Int(1)), pair(refTo(whole()), boolean()), "(ref 5, true)"},
		{h.list(five, num.Int(6)), listOf(whole()), "[5, 6]"}, {num.Int(0), listOf(whole()), "[]"},
		{h.object(api.KRef, h.list(five)), refTo(listOf(whole())), "ref [5]"}, {h.list(h.list(five), h.list()), listOf(listOf(whole())), "[[5], []]"},
		{num.Int(0), boolean(), "false"}, {num.Int(2), con(api.SExn, "exn"), "Div"}, {five, variable(3), "_"}, {0, variable(0), "_"},
		{h.list(num.Int(0)), listOf(variable(1)), "[_]"},
		// Brackets stand behind ref only around what has two parts.
		{h.object(api.KRef, num.Int(0)), refTo(unit()), "ref ()"}, {h.object(api.KRef, fn), refTo(function(whole(), unit())), "ref fn"}, {h.object(api.KRef, h.text("a")), refTo(text()), `ref "a"`}, {h.object(api.KRef, num.Int(1)), refTo(boolean()), "ref true"},
		{h.object(api.KRef, num.Int(1)), refTo(variable(0)), "ref _"}, {h.object(api.KRef, h.tuple(five, five)), refTo(pair(whole(), whole())), "ref (5, 5)"},
		{h.object(api.KRef, num.Int(1)), refTo(unit()), "ref ?"}, {h.object(api.KRef, five), refTo(text()), "ref ?"}, {h.object(api.KRef, five), refTo(function(whole(), unit())), "ref ?"}, {h.object(api.KRef, five), refTo(refTo(whole())), "ref ?"}, {h.object(api.KRef, five), refTo(boolean()), "ref ?"}, {h.object(api.KRef, h.tuple(five)), refTo(boolean()), "ref ?"}, {h.object(api.KRef, h.con(9, five)), refTo(boolean()), "ref ?"},
	} {
		if s := h.show(c.w, c.t); s != c.s {
			t.Errorf("%s, not %s", s, c.s)
		}
	}
	if s := rts.Show(nil, five, whole(), nil); s != "?" {
		t.Error(s)
	}
	if s := rts.Show(nil, five, variable(0), nil); s != "?" {
		t.Error(s)
	}
}

// tree is the datatype 'a tree = Leaf | Node of 'a tree * 'a * 'a tree | Pair of 'a * 'b | Odd of 'c, with one argument, at the stamp 10.
func tree() []api.Maker {
	t := con(10, "tree", variable(0))
	return []api.Maker{
		{Name: "Leaf", Tag: 0, Vars: 1, Type: t},
		{Name: "Node", Tag: 1, Has: true, Vars: 1, Arg: pair(t, variable(0), t), Type: t},
		{Name: "Pair", Tag: 2, Has: true, Vars: 2, Arg: pair(variable(0), variable(1)), Type: t},
		{Name: "Odd", Tag: 3, Has: true, Vars: 1, Arg: variable(1), Type: t},
		{Name: "One", Tag: 4, Has: true, Vars: 1, Arg: variable(0), Type: t},
		{Name: "Late", Tag: 4, Has: true, Vars: 1, Arg: pair(variable(0), variable(0)), Type: t},
		{Name: "Neg", Tag: 5, Has: true, Vars: 1, Arg: variable(-1), Type: t},
	}
}

func TestP5_4_Constructors(t *testing.T) {
	h := newHeap(t, 1000)
	leaf, five := num.Int(0), num.Int(5)
	ints := con(10, "tree", whole())
	for _, c := range []struct {
		w uint64
		t api.Type
		s string
	}{
		{leaf, ints, "Leaf"}, {h.con(1, h.tuple(leaf, five, leaf)), ints, "Node (Leaf, 5, Leaf)"},
		{h.con(4, five), ints, "One 5"}, {h.con(4, num.Int(-5)), ints, "One -5"},
		{h.con(4, h.con(4, five)), con(10, "tree", con(10, "tree", whole())), "One (One 5)"},
		{h.con(4, leaf), con(10, "tree", ints), "One Leaf"},
		{h.con(4, h.object(api.KRef, five)), con(10, "tree", refTo(whole())), "One (ref 5)"},
		{h.object(api.KRef, h.con(4, five)), refTo(ints), "ref (One 5)"},
		{h.con(4, h.list(h.con(4, five))), con(10, "tree", listOf(ints)), "One [One 5]"},
		{h.con(2, h.tuple(five, five)), con(10, "tree", whole(), boolean()), "Pair (5, ?)"},
		{h.con(2, h.tuple(five, num.Int(1))), con(10, "tree", whole(), boolean()), "Pair (5, true)"},
		{h.con(2, h.tuple(five, five)), ints, "Pair (5, ?)"}, {h.con(3, five), ints, "Odd ?"}, {h.con(5, five), ints, "Neg ?"}, {h.con(3, five), con(10, "tree", whole(), whole()), "Odd ?"},
		{h.con(4, five), con(10, "tree", variable(0)), "One _"},
	} {
		if s := h.show(c.w, c.t, tree()...); s != c.s {
			t.Errorf("%s, not %s", s, c.s)
		}
	}
}

func TestP5_4_NoValues(t *testing.T) {
	h := newHeap(t, 1000)
	five := num.Int(5)
	p := h.tuple(five, five)
	ints := con(10, "tree", whole())
	for i, c := range []struct {
		w uint64
		t api.Type
		s string
	}{
		{p, whole(), "?"}, {0, whole(), "?"}, {p, unit(), "?"}, {five, text(), "?"}, {p, text(), "?"}, {h.object(api.KBytes, 1), text(), "?"}, {five, function(whole(), whole()), "?"},
		{p, function(whole(), whole()), "?"}, {p, refTo(whole()), "?"}, {five, refTo(whole()), "?"}, {five, pair(whole(), whole()), "?"}, {p, pair(whole(), whole(), whole()), "?"},
		{p, pair(whole(), text()), "(5, ?)"}, {h.object(api.KClosure, five, five), pair(whole(), whole()), "?"}, {num.Int(2), boolean(), "?"}, {num.Int(-1), boolean(), "?"}, {p, boolean(), "?"},
		{h.con(0, five), ints, "?"}, {num.Int(1), ints, "?"}, {h.con(9, five), ints, "?"}, {h.tuple(num.Int(4)), ints, "?"}, {h.tuple(num.Int(4), five, five), ints, "?"}, {h.tuple(p, five), ints, "?"},
		{num.Ptr(999), ints, "?"}, {five, con(99, "none"), "?"}, {five, api.Type{}, "?"}, {five, api.Type{Kind: 3, N: 1}, "?"}, {five, api.Type{Kind: -1}, "?"},
		{five, listOf(whole()), "[?]"}, {p, listOf(whole()), "[?]"}, {num.Int(1), listOf(whole()), "[?]"}, {h.con(1, h.tuple(five, five)), listOf(whole()), "[5, ?]"},
		{h.con(1, h.tuple(p, h.con(1, five))), listOf(whole()), "[?, ?]"}, {h.con(2, h.tuple(five, num.Int(0))), listOf(whole()), "[?]"}, {h.con(1, h.tuple(five)), listOf(whole()), "[?]"},
		{five, pair(whole()), "?"}, {p, refTo(api.Type{}), "?"}, {h.object(api.KRef, five), refTo(api.Type{}), "ref ?"},
	} {
		if s := h.show(c.w, c.t, tree()...); s != c.s {
			t.Errorf("%d: %s, not %s", i, s, c.s)
		}
	}
}

func TestP5_4_Deep(t *testing.T) {
	h := newHeap(t, 1000)
	w, ty := num.Int(5), whole()
	for range 29 {
		w, ty = h.object(api.KRef, w), refTo(ty)
	}
	if s := h.show(w, ty); s != strings.Repeat("ref (", 28)+"ref 5"+strings.Repeat(")", 28) {
		t.Error(s)
	}
	w, ty = h.object(api.KRef, w), refTo(ty)
	if s := h.show(w, ty); s != strings.Repeat("ref (", 29)+"ref #"+strings.Repeat(")", 29) {
		t.Error(s)
	}
	w, ty = num.Int(0), variable(0)
	for range 30 {
		w, ty = h.list(w, w), listOf(ty)
	}
	if s := h.show(w, ty); !strings.Contains(s, strings.Repeat("[", 30)+"#, #], [#, #]]") {
		t.Error(s)
	}
	w, ty = h.tuple(num.Int(0), num.Int(0)), pair(api.Type{}, text())
	for range 28 {
		w, ty = h.object(api.KRef, w), refTo(ty)
	}
	if s := h.show(h.tuple(w, w), pair(ty, ty)); !strings.Contains(s, "ref (#, #)") || strings.Contains(s, "?") {
		t.Error("whatever it is", s)
	}
}

func TestP5_4_P5_9_Long(t *testing.T) {
	h := newHeap(t, api.MaxWords)
	l := slices.Repeat([]uint64{num.Int(7)}, 167)
	s := h.show(h.list(l...), listOf(whole()))
	if len(s) != 503 || s != "["+strings.Repeat("7, ", 166)+"7..." {
		t.Error(len(s), s)
	}
	if s = h.show(h.list(l[:166]...), listOf(whole())); len(s) != 498 || !strings.HasSuffix(s, "7]") {
		t.Error(len(s), s)
	}
	for _, n := range []int{497, 498, 499, 600, 100000} {
		long := strings.Repeat("x", n)
		s, want := h.show(h.text(long), text()), `"`+long+`"`
		if n > 498 {
			want = want[:500] + "..."
		}
		if s != want {
			t.Error(n, len(s))
		}
	}
	w := h.con(1, h.tuple(num.Int(5), num.Int(0)))
	h.Store(num.ToPtr(w)-3, 1, w) // a list without an end
	if s := h.show(w, listOf(whole())); len(s) != 503 || !strings.HasPrefix(s, "[5, 5, 5") {
		t.Error(s)
	}
	v, ty := num.Int(1), whole()
	for range 29 { // more than any time would tell
		v, ty = h.tuple(v, v), pair(ty, ty)
	}
	if s := h.show(v, ty); !strings.HasPrefix(s, strings.Repeat("(", 29)+"1, 1), (1, 1)), ((1, 1)") || len(s) != 503 {
		t.Error(s)
	}
}

func TestP5_4_NestedDatatype(t *testing.T) {
	h := newHeap(t, 1000)
	twice := con(11, "twice", pair(variable(0), variable(0)))
	makers := []api.Maker{
		{Name: "End", Tag: 0, Vars: 1, Type: con(11, "twice", variable(0))},
		{Name: "More", Tag: 1, Has: true, Vars: 1, Arg: pair(variable(0), twice), Type: con(11, "twice", variable(0))},
	}
	w := h.con(1, h.tuple(num.Int(1), h.con(1, h.tuple(h.tuple(num.Int(2), num.Int(3)), num.Int(0)))))
	if s := h.show(w, con(11, "twice", whole()), makers...); s != "More (1, More ((2, 3), End))" {
		t.Error(s)
	}
}

func TestP5_7_Quoted(t *testing.T) {
	seen := map[string]string{}
	for a := range 256 {
		for _, b := range []string{"", "x", "\\", "\"", "n", "41", "\n"} {
			s := string([]byte{byte(a)}) + b
			q := rts.Quote(s)
			if old, ok := seen[q]; ok && old != s {
				t.Errorf("%q and %q are %s", s, old, q)
			}
			seen[q] = s
			for i := range len(q) {
				if q[i] < 32 || q[i] > 126 {
					t.Errorf("%q", q)
				}
			}
		}
	}
}

func TestP5_8_Collected(t *testing.T) {
	h := newHeap(t, 1000)
	h.tuple(num.Int(1), num.Int(2))
	w := h.list(h.text("abc"), h.text("d"))
	v := h.list(h.text("abc"), h.text("d"))
	was := h.show(w, listOf(text()))
	l, e := gc.Collect(h.Mem, []uint64{w, v})
	if e != api.OK || h.show(l[0], listOf(text())) != was || was != `["abc", "d"]` {
		t.Error(e, was)
	}
	h.same(l[0], l[1], 100, rts.Alike, 9, api.OK)
}
