package core_test

import (
	"math"
	"reflect"
	"slices"
	"strings"
	"testing"

	"kindling/api"
	"kindling/core"
	"kindling/rts"
	"kindling/syntax"
)

func cint(n int64) api.Core   { return api.Core{Kind: api.CInt, Num: n} }
func ctext(s string) api.Core { return api.Core{Kind: api.CText, Text: s} }
func cvar(n int) api.Core     { return api.Core{Kind: api.CVar, N: n} }
func cglobal(n int) api.Core  { return api.Core{Kind: api.CGlobal, N: n} }

// node is a core expression of a kind with a number and parts.
func node(kind, n int, l ...api.Core) api.Core { return api.Core{Kind: kind, N: n, L: l} }

func cfix(ns []int, l ...api.Core) api.Core { return api.Core{Kind: api.CFix, Ns: ns, L: l} }

// one is a right expression of each kind, with its text, its free locals and its globals.
func one() []struct {
	c       api.Core
	s       string
	free    []int
	globals []int
} {
	return []struct {
		c       api.Core
		s       string
		free    []int
		globals []int
	}{
		{cint(0), "0", nil, nil}, {cint(api.MinInt), "-4611686018427387904", nil, nil}, {cint(api.MaxInt), "4611686018427387903", nil, nil}, {ctext(""), `""`, nil, nil}, {ctext("a\n\xff"), `"a\n\xFF"`, nil, nil},
		{cvar(0), "%0", []int{0}, nil}, {cvar(1 << 40), "%1099511627776", []int{1 << 40}, nil}, {cglobal(0), "$0", nil, []int{0}}, {cglobal(1023), "$1023", nil, []int{1023}},
		{node(api.CTuple, 0, cvar(3)), "(tuple %3)", []int{3}, nil}, {node(api.CTuple, 0, cvar(3), cvar(1), cvar(3)), "(tuple %3 %1 %3)", []int{1, 3}, nil},
		{node(api.CFn, 2, node(api.CApp, 0, cvar(2), cvar(5))), "(fn %2 (app %2 %5))", []int{5}, nil}, {node(api.CIf, 0, cvar(1), cint(2), cglobal(3)), "(if %1 2 $3)", []int{1}, []int{3}},
		{node(api.CLet, 1, cvar(1), cvar(1)), "(let %1 %1 %1)", []int{1}, nil}, {node(api.CLet, 1, cint(4), cvar(1)), "(let %1 4 %1)", nil, nil}, {node(api.CField, 0, cvar(1)), "(field 0 %1)", []int{1}, nil}, {node(api.CField, api.MaxSize-1, cvar(1)), "(field 16383 %1)", []int{1}, nil},
		{node(api.CRaise, 0, cint(1)), "(raise 1)", nil, nil}, {node(api.CTry, 4, cvar(4), cvar(4)), "(try %4 %4 %4)", []int{4}, nil}, {node(api.CTry, 4, cint(4), cvar(4)), "(try %4 4 %4)", nil, nil}, {node(api.CPut, 7, cglobal(2)), "(put $7 $2)", nil, []int{2, 7}},
		{cfix([]int{1, 2}, node(api.CApp, 0, cvar(1), cvar(2)), cvar(1)), "(fix %1 %2 (app %1 %2) %1)", nil, nil}, {cfix([]int{1, 2}, cint(0), cvar(2)), "(fix %1 %2 0 %2)", []int{2}, nil},
		{cfix([]int{1, 2, 3, 2}, cvar(3), cvar(2), cvar(9)), "(fix %1 %2 %3 %3 %2 %2 %9)", []int{9}, nil}, {cfix([]int{1, 3, 3, 1}, cvar(3), cvar(1), cint(0)), "(fix %1 %3 %3 %3 %1 %1 0)", nil, nil},
		{node(api.CLet, 0, node(api.CFn, 0, cvar(0)), node(api.CTuple, 0, cvar(0), node(api.CLet, 1, cint(1), cvar(1)), cvar(1))), "(let %0 (fn %0 %0) (tuple %0 (let %1 1 %1) %1))", []int{1}, nil},
	}
}

// prims are the operations of CPrim, with how many parts they have.
func prims() map[string]int {
	return map[string]int{"7 add": 2, "8 sub": 2, "9 mul": 2, "10 div": 2, "11 mod": 2, "12 neg": 1, "13 less": 2, "14 atmost": 2, "15 same": 2, "18 ref": 1, "21 assign": 2, "22 tag": 1, "32 join": 2, "33 size": 1, "34 str": 1, "35 ord": 2, "36 digits": 1}
}

func TestP10_2_P10_3_Right(t *testing.T) {
	for _, x := range one() {
		if !core.Right(x.c) || core.Text(x.c) != x.s || !slices.Equal(core.Free(x.c), x.free) || !slices.Equal(core.Globals(x.c), x.globals) {
			t.Errorf("%s: %v %s %v %v", x.s, core.Right(x.c), core.Text(x.c), core.Free(x.c), core.Globals(x.c))
		}
	}
	right := map[int]int{}
	for name, parts := range prims() {
		number, word, _ := strings.Cut(name, " ")
		op := 0
		for _, c := range number {
			op = op*10 + int(c-'0')
		}
		right[op] = parts
		c := node(api.CPrim, op, slices.Repeat([]api.Core{cint(5)}, parts)...)
		if s := core.Text(c); s != "("+word+strings.Repeat(" 5", parts)+")" {
			t.Error(name, s)
		}
	}
	for op := -1; op < 40; op++ {
		for parts := range 4 {
			c := node(api.CPrim, op, slices.Repeat([]api.Core{cint(5)}, parts)...)
			if core.Right(c) != (parts > 0 && right[op] == parts) {
				t.Error(op, parts)
			}
		}
	}
}

// wrong are expressions that are not right.
func wrong() []api.Core {
	x := cint(1)
	return []api.Core{
		{}, {Kind: 16}, {Kind: -1}, cint(api.MaxInt + 1), cint(api.MinInt - 1), {Kind: api.CInt, N: 1}, {Kind: api.CInt, Text: "a"}, {Kind: api.CInt, Ns: []int{1}}, {Kind: api.CInt, L: []api.Core{x}},
		{Kind: api.CText, N: 1}, {Kind: api.CText, Num: 1}, {Kind: api.CText, L: []api.Core{x}}, cvar(-1), {Kind: api.CVar, Num: 1}, {Kind: api.CVar, Text: "x"}, {Kind: api.CVar, L: []api.Core{x}}, {Kind: api.CVar, Ns: []int{0}},
		cglobal(-1), cglobal(1024), {Kind: api.CGlobal, L: []api.Core{x}}, node(api.CTuple, 0), node(api.CTuple, 1, x), node(api.CFn, -1, x), node(api.CFn, 0), node(api.CFn, 0, x, x), node(api.CApp, 0, x), node(api.CApp, 0, x, x, x), node(api.CApp, 1, x, x),
		node(api.CIf, 0, x, x), node(api.CIf, 0, x, x, x, x), node(api.CIf, 2, x, x, x), node(api.CLet, 0, x), node(api.CLet, -1, x, x), node(api.CLet, 0, x, x, x), node(api.CField, -1, x), node(api.CField, api.MaxSize, x), node(api.CField, 0), node(api.CField, 0, x, x),
		node(api.CRaise, 0), node(api.CRaise, 1, x), node(api.CRaise, 0, x, x), node(api.CTry, -1, x, x), node(api.CTry, 0, x), node(api.CPut, 0), node(api.CPut, 1024, x), node(api.CPut, -1, x), node(api.CPut, 0, x, x),
		cfix(nil), cfix([]int{1}, x, x), cfix([]int{1, 2}, x), cfix([]int{1, 2}, x, x, x), cfix([]int{1, 2, 1, 3}, x, x, x), cfix([]int{-1, 2}, x, x), cfix([]int{1, -2}, x, x), cfix([]int{1, 2, 3}, x, x), {Kind: api.CFix, N: 1, Ns: []int{1, 2}, L: []api.Core{x, x}},
		node(api.CPrim, math.MaxInt, x), {Kind: api.CPrim, N: api.OpNeg, Num: 1, L: []api.Core{x}},
	}
}

func TestP10_2_P10_3_Wrong(t *testing.T) {
	for i, c := range wrong() {
		for _, c := range []api.Core{c, node(api.CTuple, 0, cint(1), c), node(api.CFn, 0, node(api.CIf, 0, cint(1), c, cint(2)))} {
			if core.Right(c) || core.Text(c) != "" {
				t.Errorf("%d: %+v", i, c)
			}
			core.Free(c)
			core.Globals(c)
		}
	}
}

func TestP10_2_FreeOfWrong(t *testing.T) {
	for _, x := range []struct {
		c       api.Core
		free    []int
		globals []int
	}{
		{node(99, 5, cvar(5), cvar(6), cglobal(-3)), []int{5, 6}, []int{-3}}, {node(api.CInt, 0, cvar(7), cglobal(2000)), []int{7}, []int{2000}}, {node(api.CVar, -4, cvar(2)), []int{-4, 2}, nil},
		{node(api.CFn, 1, cvar(1), cvar(1)), []int{1}, nil}, {node(api.CLet, 1, cint(0), cvar(1), cvar(1)), []int{1}, nil}, {node(api.CLet, 1, cvar(3)), []int{3}, nil}, {node(api.CTry, 1, cint(0), cvar(1), cvar(1)), []int{1}, nil},
		{cfix([]int{1, 2, 3}, cvar(2), cvar(3), cvar(1), cvar(2)), []int{2}, nil}, {cfix([]int{1}, cvar(1), cvar(2)), []int{2}, nil}, {cfix(nil, cvar(1)), []int{1}, nil}, {cfix([]int{1, 2, 3, 4}, cvar(4), cvar(2)), []int{2, 4}, nil},
		{cfix([]int{1, 2, 3, 4}, cvar(2), cvar(4), cvar(1), cvar(3)), nil, nil}, {node(api.CPut, -1, cvar(0)), []int{0}, []int{-1}}, {node(api.CApp, 1, cvar(1), node(api.CFn, 1, cvar(1))), []int{1}, nil},
	} {
		if f, g := core.Free(x.c), core.Globals(x.c); !slices.Equal(f, x.free) || !slices.Equal(g, x.globals) {
			t.Errorf("%+v: %v %v", x.c, f, g)
		}
	}
}

// read is the first declaration of a text.
func read(t *testing.T, s string) api.Decl {
	t.Helper()
	l, _, e := syntax.Parse(s)
	if e != api.OK {
		t.Fatal(s, e)
	}
	return l[0]
}

// known are makers of a datatype t = A | B of .. | C of .., and an exception X of ...
func known() []api.Maker {
	t := api.Type{Kind: api.KCon, N: 10, Name: "t"}
	return append(rts.Makers(), api.Maker{Name: "A", Tag: 0, Type: t}, api.Maker{Name: "B", Tag: 1, Has: true, Type: t}, api.Maker{Name: "C", Tag: 2, Has: true, Type: t}, api.Maker{Name: "X", Tag: 6, Has: true})
}

func TestP10_1_Errors(t *testing.T) {
	names := []core.Name{{"x", 3}, {"f", 4}, {"high", api.MaxGlobal - 1}}
	for _, c := range []struct {
		s    string
		nums []int
		e    api.Errno
	}{
		{"x", []int{1}, api.OK}, {"x", []int{1, 2000, -1}, api.OK}, {"x", nil, api.ErrLong}, {"y", nil, api.ErrName}, {"y", []int{-1}, api.ErrName}, {"val (a, b) = (1, 2)", []int{7}, api.ErrLong}, {"val (a, b) = (1, 2)", []int{-1}, api.ErrLong}, {"val (a, b) = (1, 2)", []int{7, 1024}, api.ErrArg}, {"val (a, b) = (1, 2)", []int{-1, 7}, api.ErrArg}, {"val (a, b) = (1, 2)", []int{1023, 0, -5}, api.OK},
		{"val _ = 1", nil, api.OK}, {"val _ = y", nil, api.ErrName}, {"val a = a", []int{1}, api.ErrName}, {"fun g a = g b", []int{1}, api.ErrName}, {"fun g a = h a and h b = g b", []int{1, 2}, api.OK}, {"fun g a = h a and h b = g b", []int{1}, api.ErrLong}, {"fn a => let val b = a in b end", []int{1}, api.OK}, {"(let val b = 1 in b end, b)", []int{1}, api.ErrName}, {"(fn a => a) a", []int{1}, api.ErrName}, {"x handle e => e", []int{1}, api.OK}, {"e handle e => 1", []int{1}, api.ErrName}, {"case x of y => y | z => y", []int{1}, api.ErrName}, {"let val b = b in 1 end", []int{1}, api.ErrName}, {"let fun b c = b c in b end", []int{1}, api.OK}, {"let val b = 1 val c = b in c end", []int{1}, api.OK},
		{"D", []int{1}, api.ErrName}, {"fn D => 1", []int{1}, api.ErrName}, {"fn D x => 1", []int{1}, api.ErrName}, {"fn A x => 1", []int{1}, api.ErrKind}, {"fn B => 1", []int{1}, api.ErrKind}, {"fn B => y", []int{1}, api.ErrName}, {"fn A x => 1", nil, api.ErrKind}, {"fn A x => 1", []int{-1}, api.ErrKind}, {"fn (1, (A, B x)) => x", []int{1}, api.OK}, {"fn _ => 1 | B => 2", []int{1}, api.ErrKind}, {"fn _ => 1 | _ => y", []int{1}, api.ErrName}, {"val B = 1", nil, api.ErrKind}, {"fun g B = 1", []int{1}, api.ErrKind}, {"1 handle B => 2", []int{1}, api.ErrKind}, {"case 1 of x :: nil y => 2", []int{1}, api.ErrKind},
		{"datatype u = U of v", nil, api.OK}, {"exception E of v", nil, api.OK}, {"high", []int{0}, api.OK}, {"B", []int{0}, api.OK}, {"B 1 :: nil", []int{0}, api.OK},
	} {
		got, more, e := core.Lower(read(t, c.s), names, known(), c.nums)
		if e != c.e || e != api.OK && (!reflect.DeepEqual(got, api.Core{}) || len(more) != 0) || e == api.OK && !core.Right(got) {
			t.Errorf("%s %v: %d, not %d", c.s, c.nums, e, c.e)
		}
	}
	for _, s := range []string{"1 :: x", "fn a :: b => 1"} {
		if _, _, e := core.Lower(read(t, s), names, known()[:3], []int{1}); e != api.ErrName {
			t.Error("without ::", s, e)
		}
	}
	odd := []api.Maker{{Name: "::"}}
	if _, _, e := core.Lower(read(t, "fn a :: b => 1"), nil, odd, []int{1}); e != api.ErrKind {
		t.Error(e)
	}
	for _, d := range []api.Decl{{}, {Kind: api.DExpr}, {Kind: api.DExpr, Expr: api.Expr{Kind: api.EVar, Name: "val"}}} {
		if _, _, e := core.Lower(d, nil, nil, nil); e != api.ErrForm {
			t.Error(d, e)
		}
	}
}

func TestP10_1_Names(t *testing.T) {
	names := []core.Name{{"x", 3}, {"y", 4}, {"x", 5}}
	for _, c := range []struct {
		s    string
		nums []int
		want []core.Name
	}{
		{"val _ = 1", []int{9}, nil}, {"1", []int{9, 8}, []core.Name{{"it", 9}}}, {"val (b, a :: x) = (1, nil)", []int{7, 9, 8}, []core.Name{{"b", 7}, {"a", 9}, {"x", 8}}}, {"fun g a = 1 and f b = 2", []int{1, 2}, []core.Name{{"g", 1}, {"f", 2}}}, {"datatype t = T", []int{9}, nil}, {"exception E", nil, nil},
	} {
		_, got, e := core.Lower(read(t, c.s), names, rts.Makers(), c.nums)
		if e != api.OK || !slices.Equal(got, append(slices.Clone(names), c.want...)) {
			t.Error(c.s, got, e)
		}
		got[0].N = 77
		if names[0].N != 3 {
			t.Fatal("it is not new memory")
		}
		got = append(got[:1], core.Name{})
		if names[1].Name != "y" {
			t.Fatal("it is not new memory")
		}
	}
	room := append(make([]core.Name, 0, 10), names...)
	core.Lower(read(t, "1"), room, nil, []int{9})
	if room[:4][3].Name != "" {
		t.Error("what is handed in was changed")
	}
	for _, n := range []int{-1, api.MaxGlobal} { // no right expression names such a global
		if c, _, e := core.Lower(read(t, "x"), []core.Name{{"x", n}}, nil, []int{6}); e == api.OK && !core.Right(c) {
			t.Error(n)
		}
	}
	c, _, _ := core.Lower(read(t, "val z = x"), names, nil, []int{6})
	if !slices.Equal(core.Globals(c), []int{5, 6}) {
		t.Error("the last one counts", core.Text(c))
	}
}

func TestP10_1_LastMaker(t *testing.T) {
	makers := append(known(), api.Maker{Name: "A", Tag: 9})
	c, _, e := core.Lower(read(t, "A"), nil, makers, []int{6})
	if e != api.OK || !strings.Contains(core.Text(c), "9") {
		t.Error(core.Text(c), e)
	}
	if _, _, e := core.Lower(read(t, "fn B x => 1"), nil, append(known(), api.Maker{Name: "B", Tag: 9}), []int{6}); e != api.ErrKind {
		t.Error(e)
	}
}

func TestP10_4_Answers(t *testing.T) {
	names := []core.Name{{"x", 3}, {"f", 4}, {"unused", 5}}
	for _, s := range []string{
		"1", "fn (A, B (a, C b)) => (a, b) | _ => (1, 2)", "fun g (a :: b) (c, 1) = f a and h x = g x x", "val (a, (b, C c), d :: _) = x", "x handle X n => n | Div => 1 | _ => 2", "case f x of 1 => 2 | n => n + 1", "let val (a, b) = x fun q r = (a, q) in (q; b; if a > b then a else a >= b) end",
		"val _ = f x", "fn s => ord s + ord (x, 1) + size (str 1 ^ itos 5)", "not (x andalso f 1 orelse x <> 3) :: nil", "raise X 5", "(B, C x, ref x := !x)", "datatype t = Q",
	} {
		c, all, e := core.Lower(read(t, s), names, known(), []int{10, 11, 12, 13})
		if e != api.OK || !core.Right(c) || len(core.Free(c)) != 0 {
			t.Errorf("%s: %s %v %d", s, core.Text(c), core.Free(c), e)
		}
		puts := map[int]int{}
		for _, n := range all[len(names):] {
			puts[n.N] = 1
		}
		for _, g := range core.Globals(c) {
			if g != 3 && g != 4 && puts[g] == 0 {
				t.Error(s, "names the global", g)
			}
		}
		for g := range puts {
			if n := strings.Count(core.Text(c), "(put $"+string([]byte{'1', byte('0' + g - 10)})+" "); n != 1 {
				t.Error(s, "puts", g, n, "times")
			}
		}
	}
}
