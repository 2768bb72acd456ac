package checks

import (
	"testing"

	"kindling/api"
	"kindling/core"
	"kindling/rts"
	"kindling/syntax"
	"kindling/types"
)

// program is declarations one behind the other, worked out by the model of their words and by another one.
type program struct {
	env    *types.Env
	source *sourceModel
	names  []core.Name
	next   int
}

func newProgram() *program {
	return &program{env: types.New(), source: &sourceModel{makers: rts.Makers()}}
}

// decls is a text's declarations, if it is read and typed, with the values that each one makes.
func (p *program) decls(t *testing.T, text string) ([]api.Decl, [][]api.Bind, bool) {
	t.Helper()
	l, at, e := syntax.Parse(text)
	if e == api.ErrSyntax || e == api.ErrToken {
		t.Fatalf("%s: %d at %d", text, e, at)
	}
	if e != api.OK {
		return nil, nil, false
	}
	made, at, e := p.env.Add(l)
	if e == api.ErrName {
		t.Fatalf("%s: no such name in %d", text, at)
	}
	return l, made, e == api.OK
}

// lower lowers a declaration with globals of its own, and tells these.
func (p *program) lower(t *testing.T, d api.Decl, made int) (api.Core, []int) {
	t.Helper()
	p.source.makers = p.env.Makers()
	var nums []int
	for range made {
		nums = append(nums, p.next%api.MaxGlobal)
		p.next++
	}
	c, names, e := core.Lower(d, p.names, p.env.Makers(), nums)
	if e != api.OK {
		t.Fatal("Lower", e)
	}
	p.names = names
	return c, nums
}

// agree holds what two models have left against each other.
func agree(t *testing.T, text string, want value, how int, got value, how2 int) bool {
	t.Helper()
	if how == isLate || how2 == isLate {
		return false
	}
	if how != how2 || how == raised && !alike(want, got) {
		t.Errorf("%s\nends %d %v, not %d %v", text, how2, got, how, want)
		return false
	}
	return true
}

// budget is how many steps the models make at most.
const budget = 200000

// decl works one declaration out by both models; false, if it does not end by values.
func (p *program) decl(t *testing.T, text string, d api.Decl, made int, m *coreModel) bool {
	t.Helper()
	c, nums := p.lower(t, d, made)
	if !core.Right(c) || len(core.Free(c)) > 0 {
		t.Errorf("%s: %s", text, core.Text(c))
	}
	p.source.clock, m.clock, m.put = &clock{budget}, &clock{3 * budget}, nil
	var want []value
	w, how := outcome(func() value { want = p.source.decl(d); return nil })
	v, how2 := outcome(func() value { return m.eval(c, nil) })
	if !agree(t, text, w, how, v, how2) || how != done {
		if len(m.put) > 0 {
			t.Errorf("%s: a global was put", text) // P10.5
		}
		return false
	}
	if v != value(int64(0)) || len(m.put) != len(nums) {
		t.Errorf("%s is worth %v and puts %v", text, v, m.put)
	}
	for i, n := range nums {
		if i < len(m.put) && m.put[i] != n || !alike(want[i], m.globals[n]) {
			t.Errorf("%s: global %d is %v, not %v\n%s", text, n, m.globals[n], want[i], core.Text(c))
		}
	}
	return true
}

// play works a text's declarations out till one does not end by values.
func (p *program) play(t *testing.T, text string, m *coreModel) (played bool) {
	t.Helper()
	was, names, top := p.env.Copy(), p.names, p.source.top
	l, made, ok := p.decls(t, text)
	for i := 0; ok && i < len(l); i++ {
		ok = p.decl(t, text, l[i], len(made[i]), m)
	}
	if !ok {
		p.env, p.names, p.source.top = was, names, top
	}
	return ok
}

func TestP10_1_Worth(t *testing.T) {
	for _, text := range lowered() {
		p, m := newProgram(), &coreModel{globals: map[int]value{}}
		for _, s := range preludes() {
			if !p.play(t, s, m) {
				t.Fatal(s)
			}
		}
		p.play(t, text, m)
	}
}

// lowered are texts with what the chapter says of each kind of expression and pattern.
func lowered() []string {
	return []string{
		"1; \"a\"; (); (1, \"a\", ()); true; nil; Failed; Failed 1; Node (Leaf, 1, Leaf)", "val (a, (b, _), c :: d) = (1, (2, 3), 4 :: 5 :: nil); (a, b, c, d)", "val (1, a) = (1, 2)", "val (1, a) = (2, 3)", "val nil = 1 :: nil", "val a :: _ = if true then nil else 1 :: nil", "val \"a\" = \"a\"; val \"a\" = \"b\"",
		"val f = Failed; case f 3 of Failed n => n", "val x = 1; val y = x + 1; val x = y * 10; (x, y)", "fun f 0 = 1; f 0; f 1", "fun f x y z = (x, y, z); f 1 2 3; val g = f 1 2; (g 3, g 4)", "fun f (a, b) (c :: _) \"s\" = a + b + c; f (1, 2) (3 :: nil) \"s\"; f (1, 2) nil \"s\"", "fun f 1 (x, x') = x; val g = f 2; g (3, 4)",
		"fun even n = if n = 0 then true else odd (n - 1) and odd n = if n = 0 then false else even (n - 1); (even 10, odd 7)", "fn x => x; it 5", "(fn 0 => \"a\" | 1 => \"b\" | _ => \"c\") 1", "(fn 0 => \"a\") 1", "case (1, \"b\") of (0, _) => 1 | (_, \"a\") => 2 | (1, s) => size s | _ => 9", "case Node (Leaf, 3, Node (Leaf, 4, Leaf)) of Node (_, 4, _) => 1 | Node (_, _, Node (Leaf, n, _)) => n | Leaf => 0 | _ => 9",
		"1 handle _ => 2", "(raise Plain) handle Plain => 1 | Failed n => n", "(raise Failed 7) handle Plain => 1 | Failed n => n", "(raise Failed 7) handle Plain => 1", "((raise Failed 7) handle Plain => 1) handle Failed n => n + 1", "(1 div 0) handle Div => 5", "1 mod 0", "(raise (raise Plain)) handle Plain => 3", "(1, (2 handle _ => 3)); ((raise Plain) handle Plain => raise Failed 1) handle Failed 1 => 4",
		"val r = ref 1; (r := 2; !r); (r := !r + 1, !r)", "let val x = 1 val y = x + 1 fun f z = z + x + y in (f 10; f 20) end", "let fun f x = if x = 0 then 0 else g (x - 1) and g x = f x in f 5 end", "let val (a, b) = (1, 2) in a + b end", "let val (1, b) = (2, 2) in b end", "let val x = 1 in let val x = x + 1 in x * 10 end + x end", "(fn x => fn x => x) 1 2",
		"1 + 2 - 3 * 4; 7 div 2; ~7 div 2; ~7 mod 2; 7 mod ~2; \"a\" ^ \"b\"; 1 < 2; 2 < 1; 1 <= 1; 1 > 2; 2 >= 2; 1 >= 2; 1 = 1; 1 <> 1; (1, \"a\") = (1, \"a\"); (1, \"a\") <> (1, \"b\"); 1 :: 2 :: nil", "~5; not true; not false; ! (ref 3); size \"abc\"; str 65; ord (\"abc\", 1); itos ~45", "ord (\"abc\", 3)", "ord (\"abc\", ~1)", "str 256", "str ~1", "val p = (\"abc\", 2); ord p",
		"val r = ref 0; fun t n = (r := !r * 10 + n; n); t 1 > t 2; t 3 >= t 4; t 5 < t 6; (t 7, t 8); !r", "val r = ref 0; fun t b n = (r := !r * 10 + n; b); t true 1 andalso t false 2; t false 3 andalso t true 4; t true 5 orelse t true 6; t false 7 orelse t true 8; !r", "val r = ref \"\"; fun t s = (r := !r ^ s; 1); t \"a\" + t \"b\" * t \"c\"; (t \"d\") :: (t \"e\") :: nil; (fn x => fn y => t \"f\") (t \"g\") (t \"h\"); !r",
		"(fn x => x) = (fn x => x)", "1 = 1 andalso (fn x => x) = (fn y => y)", "ref 1 = ref 1; val r = ref 1; r = r; (r, 2) = (r, 2)", "Plain = Plain; Failed 1 = Failed 1; Failed 1 = Failed 2; Plain = Failed 1", "nil = 1 :: nil; Leaf = Node (Leaf, 1, Leaf); \"a\" = \"a\"",
		"map (fn x => x * x) (1 :: 2 :: 3 :: nil); append (1 :: nil) (2 :: nil); sum (1 :: 2 :: nil)", "val it = 3; it + 1; it + 1", "fun f f = f + 1; f 2", "val x = 5; fun f y = x + y; val x = 6; f 1", "fn (a, b :: c) => a | (d, nil) => d; it (1, nil); it (2, 3 :: nil)", "case 5 of n => n + 1", "case () of () => 1", "(1; 2; 3)", "let val _ = raise Plain in 1 end", "val _ = 1", "exception E of int * int; (raise E (1, 2)) handle E (a, b) => a + b", "datatype t = A | B of t; datatype u = A of int; A 1; B; case A 2 of A n => n",
		"raise Match", "raise Failed (1 + 1)", "val f = fn Plain => 1 | Div => 2 | Match => 3 | _ => 4; (f Plain, f Div, f Match, f Bind)", "if 1 < 2 then \"y\" else \"n\"", "4611686018427387903 + 1", "case ~1 of ~1 => 1 | _ => 2", "(fn (x, 1) => x | (2, y) => y | (x, y) => x * y) (2, 5)",
	}
}

func TestP10_1_ByChance(t *testing.T) {
	played, all := 0, 0
	for seed := range uint64(1500) {
		g := &gen{x: seed}
		p, m := newProgram(), &coreModel{globals: map[int]value{}}
		for _, s := range preludes() {
			p.play(t, s, m)
		}
		for {
			was := g.known
			s := g.items(1, 4)[0]
			ok := p.play(t, s, m)
			if all++; ok {
				played++
			} else {
				g.known = was
			}
			if g.n(6) == 0 {
				break
			}
		}
		if t.Failed() {
			t.Fatal("seed", seed)
		}
	}
	if played*3 < all {
		t.Error("too few ended by values", played, all)
	}
	t.Log(played, all)
}

func TestP10_7_Let(t *testing.T) {
	for _, c := range [][2]string{{"x + x", "1 + 2"}, {"(x 1, x 2)", "fn y => y"}, {"case x of nil => 1 | y :: _ => y", "5 :: nil"}, {"let val x = x in x end", "ref 1"}, {"!x", "ref (3, 4)"}} {
		a, m := newProgram(), &coreModel{globals: map[int]value{}}
		b, n := newProgram(), &coreModel{globals: map[int]value{}}
		if !a.play(t, "val x = "+c[1]+"; "+c[0], m) || !b.play(t, "let val x = "+c[1]+" in "+c[0]+" end", n) {
			t.Fatal(c)
		}
		if !alike(m.globals[1], n.globals[0]) {
			t.Error(c)
		}
	}
}

func TestP10_1_TwoAlike(t *testing.T) {
	// What no type would let stand: of two variables alike the one further to the right counts.
	for s, want := range map[string]int64{"(fn (a, a) => a) (1, 2)": 2, "case (1, (2, 3)) of (a, (b, a)) => a": 3, "let fun f a a = a in f 1 2 end": 2, "let val (a, a) = (1, 2) in a end": 2} {
		l, _, _ := syntax.Parse(s)
		c, _, e := core.Lower(l[0], nil, rts.Makers(), []int{3})
		m := &coreModel{clock: &clock{1000}, globals: map[int]value{}}
		if e != api.OK || m.eval(c, nil) != value(int64(0)) || m.globals[3] != value(want) {
			t.Error(s, e, m.globals)
		}
	}
}
