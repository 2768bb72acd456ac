package anf_test

import (
	"math"
	"strings"
	"testing"

	"kindling/anf"
	"kindling/api"
)

func aint(n int64) api.Atom   { return api.Atom{Kind: api.AInt, Num: n} }
func atext(s string) api.Atom { return api.Atom{Kind: api.AText, Text: s} }
func local(n int) api.Atom    { return api.Atom{Kind: api.ALocal, N: n} }
func arg() api.Atom           { return api.Atom{Kind: api.AArg} }
func free(n int) api.Atom     { return api.Atom{Kind: api.AFree, N: n} }
func global(n int) api.Atom   { return api.Atom{Kind: api.AGlobal, N: n} }

// step is a step of a kind that gives a local something.
func step(kind, to, n int, args ...api.Atom) api.Step {
	return api.Step{Kind: kind, To: to, N: n, Args: args}
}

func (s withBlocks) of(l ...api.Block) api.Step { s.Blocks = l; return api.Step(s) }

type withBlocks api.Step

// ret is a block that ends with an atom behind steps.
func ret(a api.Atom, steps ...api.Step) api.Block {
	return api.Block{Steps: steps, End: api.EndReturn, Args: []api.Atom{a}}
}

func ends(kind int, args []api.Atom, blocks ...api.Block) api.Block {
	return api.Block{End: kind, Args: args, Blocks: blocks}
}

// list is a first function with a body, and one that has two values with it.
func list(body api.Block) []api.Func {
	return []api.Func{{Locals: 3, Body: body}, {Free: 2, Locals: 1, Body: ret(free(1), step(api.SMove, 0, 0, arg()))}}
}

// rights are right lists of functions, with their texts.
func rights() []struct {
	l []api.Func
	s string
} {
	second := "(fun 2 1 [ (move %0 arg) (return ^1) ])\n"
	sif := withBlocks(step(api.SIf, 0, 0, aint(1))).of(ret(aint(2)), ret(local(1), step(api.SMove, 1, 0, aint(3))))
	try := withBlocks(step(api.STry, 0, 2)).of(ends(api.EndRaise, []api.Atom{aint(5)}), ret(local(2)))
	return []struct {
		l []api.Func
		s string
	}{
		{[]api.Func{{Body: ret(aint(-3))}}, "(fun 0 0 [ (return -3) ])\n"},
		{[]api.Func{{Body: ret(aint(0), step(api.SPut, 0, 7, aint(1)))}}, "(fun 0 0 [ (put $7 1) (return 0) ])\n"},
		{list(ret(local(0), step(api.SMove, 0, 0, atext("a\n")))), "(fun 0 3 [ (move %0 \"a\\n\") (return %0) ])\n" + second},
		{list(ret(local(0), step(api.SPrim, 2, api.OpAdd, global(3), aint(1)), step(api.SMake, 0, 0, local(2), local(2), local(2)))), "(fun 0 3 [ (prim add %2 $3 1) (make %0 %2 %2 %2) (return %0) ])\n" + second},
		{list(ret(local(1), step(api.SClose, 1, 1, aint(1), aint(2)), step(api.SFill, 0, 1, local(1), local(1)), step(api.SField, 1, api.MaxSize-1, local(1)), step(api.SCall, 1, 0, local(1), local(1)))), "(fun 0 3 [ (close %1 1 1 2) (fill 1 %1 %1) (field %1 16383 %1) (call %1 %1 %1) (return %1) ])\n" + second},
		{list(ret(local(0), sif)), "(fun 0 3 [ (if %0 1 [ (return 2) ] [ (move %1 3) (return %1) ]) (return %0) ])\n" + second},
		{list(ret(local(0), try)), "(fun 0 3 [ (try %0 %2 [ (raise 5) ] [ (return %2) ]) (return %0) ])\n" + second},
		{list(ends(api.EndCall, []api.Atom{aint(1), aint(2)})), "(fun 0 3 [ (tail 1 2) ])\n" + second},
		{list(ends(api.EndIf, []api.Atom{global(0)}, ends(api.EndCall, []api.Atom{aint(1), aint(2)}), ends(api.EndIf, []api.Atom{aint(1)}, ret(aint(1)), ret(aint(2))))), "(fun 0 3 [ (branch $0 [ (tail 1 2) ] [ (branch 1 [ (return 1) ] [ (return 2) ]) ]) ])\n" + second},
		{list(ret(aint(1), step(api.SPrim, 0, api.OpNeg, global(1023)), step(api.SPrim, 0, api.OpAssign, local(0), local(0)), step(api.SFill, 0, math.MaxInt, local(0), local(0)), step(api.SClose, 0, 0))), "(fun 0 3 [ (prim neg %0 $1023) (prim assign %0 %0 %0) (fill 9223372036854775807 %0 %0) (close %0 0) (return 1) ])\n" + second},
	}
}

func TestP11_2_P11_3_Right(t *testing.T) {
	for _, x := range rights() {
		if !anf.Right(x.l) || anf.Text(x.l) != x.s {
			t.Errorf("%s: %v %s", x.s, anf.Right(x.l), anf.Text(x.l))
		}
		if more := append(x.l[:len(x.l):len(x.l)], x.l...); len(x.l) == 1 && (!anf.Right(more) || anf.Text(more) != x.s+x.s) { // P11.7
			t.Error("one function more", x.s)
		}
	}
}

// wrongSteps are steps that no block may have, in a first function with three locals, of which 1 is given.
func wrongSteps() []api.Step {
	one, two := aint(1), []api.Block{ret(aint(1)), ret(aint(2))}
	return []api.Step{
		{}, {Kind: 11, Args: []api.Atom{one}}, {Kind: -1}, step(api.SMove, 3, 0, one), step(api.SMove, -1, 0, one), step(api.SMove, 0, 1, one), step(api.SMove, 0, 0), step(api.SMove, 0, 0, one, one), withBlocks(step(api.SMove, 0, 0, one)).of(two...),
		step(api.SPrim, 0, api.OpInt, one), step(api.SPrim, 0, 0, one), step(api.SPrim, 0, api.OpAdd, one), step(api.SPrim, 0, api.OpNeg, one, one), step(api.SPrim, 0, api.OpNeg), step(api.SPrim, 0, api.OpAdd, one, one, one), step(api.SPrim, 3, api.OpNeg, one), step(api.SPrim, 0, api.OpTuple, one), step(api.SPrim, 0, 37, one), step(api.SPrim, 0, api.OpRaise, one),
		step(api.SMake, 0, 0), step(api.SMake, 0, 1, one), step(api.SMake, 3, 0, one), step(api.SClose, 0, 2, one), step(api.SClose, 0, -1), step(api.SClose, 0, 1, one), step(api.SClose, 0, 1), step(api.SClose, 0, 0, one), step(api.SClose, 3, 0), withBlocks(step(api.SClose, 0, 0)).of(two...),
		step(api.SFill, 1, 0, one, one), step(api.SFill, 0, -1, one, one), step(api.SFill, 0, 0, one), step(api.SField, 0, -1, one), step(api.SField, 0, api.MaxSize, one), step(api.SField, 0, 0), step(api.SCall, 0, 0, one), step(api.SCall, 0, 1, one, one), step(api.SCall, 5, 0, one, one),
		step(api.SPut, 1, 0, one), step(api.SPut, 0, 1024, one), step(api.SPut, 0, -1, one), step(api.SPut, 0, 0), step(api.SPut, 0, 0, one, one), withBlocks(step(api.SPut, 0, 0, one)).of(two...),
		step(api.SIf, 0, 0, one), withBlocks(step(api.SIf, 0, 0, one)).of(two[0]), withBlocks(step(api.SIf, 0, 1, one)).of(two...), withBlocks(step(api.SIf, 0, 0)).of(two...), withBlocks(step(api.SIf, 3, 0, one)).of(two...), withBlocks(step(api.SIf, 0, 0, one)).of(two[0], two[1], two[0]), withBlocks(step(api.SIf, 0, 0, one)).of(two[0], api.Block{}), withBlocks(step(api.SIf, 0, 0, one)).of(api.Block{}, two[0]),
		step(api.STry, 0, 0), withBlocks(step(api.STry, 0, 3)).of(two...), withBlocks(step(api.STry, 0, -1)).of(two...), withBlocks(step(api.STry, 3, 0)).of(two...), withBlocks(step(api.STry, 0, 0, one)).of(two...), withBlocks(step(api.STry, 0, 0)).of(two[0]), withBlocks(step(api.STry, 0, 0)).of(api.Block{}, two[0]), withBlocks(step(api.STry, 0, 0)).of(two[0], api.Block{}),
		withBlocks(step(api.STry, 0, 2)).of(ret(local(2)), ret(local(2))), withBlocks(step(api.STry, 0, 2)).of(ret(aint(1), step(api.SMove, 0, 0, one)), ret(local(0))), withBlocks(step(api.SIf, 0, 0, one)).of(ret(local(0)), two[0]), withBlocks(step(api.SIf, 0, 0, one)).of(ret(aint(1), step(api.SMove, 2, 0, one)), ret(local(2))), withBlocks(step(api.SIf, 0, 0, local(0))).of(two...),
		withBlocks(step(api.SIf, 0, 0, one)).of(ends(api.EndCall, []api.Atom{one, one}), two[0]), withBlocks(step(api.STry, 0, 0)).of(two[0], ends(api.EndCall, []api.Atom{one, one})), withBlocks(step(api.STry, 0, 0)).of(ends(api.EndCall, []api.Atom{one, one}), two[0]), withBlocks(step(api.SIf, 0, 0, one)).of(two[0], ends(api.EndCall, []api.Atom{one, one})), withBlocks(step(api.SIf, 0, 0, one)).of(two[0], ends(api.EndIf, []api.Atom{one}, two[0], ends(api.EndCall, []api.Atom{one, one}))),
		withBlocks(step(api.SIf, 0, 0, one)).of(two[0], ret(aint(1), withBlocks(step(api.STry, 0, 0)).of(two[0], ends(api.EndCall, []api.Atom{one, one})))),
	}
}

// wrongAtoms are atoms that may not stand there.
func wrongAtoms() []api.Atom {
	return []api.Atom{
		{}, {Kind: 7}, aint(api.MaxInt + 1), aint(api.MinInt - 1), {Kind: api.AInt, N: 1}, {Kind: api.AInt, Text: "a"}, {Kind: api.AText, N: 1}, {Kind: api.AText, Num: 1}, local(0), local(2), local(3), local(-1), {Kind: api.ALocal, N: 1, Num: 1}, {Kind: api.ALocal, N: 1, Text: "a"},
		arg(), free(0), global(-1), global(1024), {Kind: api.AGlobal, N: 1, Num: 1},
	}
}

// wrongEnds are blocks whose ends may not be.
func wrongEnds() []api.Block {
	one, b := aint(1), ret(aint(1))
	return []api.Block{
		{}, ends(5, []api.Atom{one}), ends(-1, []api.Atom{one}), ends(api.EndReturn, nil), ends(api.EndReturn, []api.Atom{one, one}), ends(api.EndReturn, []api.Atom{one}, b), ends(api.EndCall, []api.Atom{one}), ends(api.EndCall, []api.Atom{one, one}, b), ends(api.EndRaise, nil), ends(api.EndRaise, []api.Atom{one}, b),
		ends(api.EndIf, []api.Atom{one}), ends(api.EndIf, []api.Atom{one}, b), ends(api.EndIf, nil, b, b), ends(api.EndIf, []api.Atom{one}, b, b, b), ends(api.EndIf, []api.Atom{one}, b, api.Block{}), ends(api.EndIf, []api.Atom{one}, api.Block{}, b), ends(api.EndIf, []api.Atom{one}, ret(aint(1), step(api.SMove, 0, 0, one)), ret(local(0))),
	}
}

func TestP11_2_Wrong(t *testing.T) {
	given := step(api.SMove, 1, 0, aint(1))
	for i, s := range wrongSteps() {
		for _, b := range []api.Block{ret(aint(1), given, s), ret(aint(1), withBlocks(step(api.SIf, 0, 0, aint(1))).of(ret(aint(1)), ret(aint(1), given, s)))} {
			if l := list(b); anf.Right(l) || anf.Text(l) != "" {
				t.Errorf("step %d: %+v", i, s)
			}
		}
	}
	for i, a := range wrongAtoms() {
		for _, b := range []api.Block{ret(a, given), ret(aint(1), given, step(api.SPrim, 0, api.OpAdd, aint(1), a)), ends(api.EndIf, []api.Atom{a}, ret(aint(1)), ret(aint(1))), ret(aint(1), given, step(api.SPut, 0, 0, a)), ends(api.EndCall, []api.Atom{aint(1), a})} {
			if l := list(b); anf.Right(l) {
				t.Errorf("atom %d: %+v", i, a)
			}
		}
	}
	for i, b := range wrongEnds() {
		if l := list(b); anf.Right(l) {
			t.Errorf("end %d: %+v", i, b)
		}
	}
	good := api.Func{Locals: 1, Body: ret(aint(1))}
	for i, l := range [][]api.Func{
		nil, {{Free: 1, Body: ret(aint(1))}}, {good, {Free: -1, Body: ret(aint(1))}}, {good, {Locals: -1, Body: ret(aint(1))}}, {{Locals: -1, Body: ret(aint(1))}}, {good, {}}, {good, {Free: 1, Body: ret(free(1))}}, {good, {Free: 1, Body: ret(free(-1))}}, {good, {Locals: 1, Body: ret(local(0))}},
		{good, {Body: ret(api.Atom{Kind: api.AArg, N: 1})}}, {good, good, {Free: 2, Body: ret(free(2))}},
	} {
		if anf.Right(l) || anf.Text(l) != "" {
			t.Errorf("list %d", i)
		}
	}
	if !anf.Right([]api.Func{good, {Free: 1, Body: ret(free(0))}, {Body: ret(arg())}}) {
		t.Error("a right one")
	}
}

func TestP11_2_Many(t *testing.T) {
	// What a block gives is forgotten behind it, however many locals there are.
	huge := api.Func{Locals: math.MaxInt, Body: ret(local(math.MaxInt-1), step(api.SMove, math.MaxInt-1, 0, aint(1)))}
	if !anf.Right([]api.Func{huge}) {
		t.Error("many locals")
	}
	b := ret(aint(1))
	for range 2000 {
		b = ret(aint(1), withBlocks(step(api.SIf, 0, 0, aint(1))).of(b, ret(aint(1))))
	}
	if s := anf.Text([]api.Func{{Locals: 1, Body: b}}); strings.Count(s, "(if") != 2000 {
		t.Error("deep")
	}
}
