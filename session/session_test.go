package session_test

import (
	"math"
	"slices"
	"strconv"
	"strings"
	"testing"

	"kindling/api"
	"kindling/session"
)

// made is a new session.
func made(t *testing.T, words, stack int) *session.Session {
	t.Helper()
	s, e := session.New(api.Options{Words: words, Stack: stack})
	if s == nil || e != api.OK {
		t.Fatal("New", e)
	}
	return s
}

// do does an item with steps enough.
func do(s *session.Session, text string) api.Response {
	return s.Do(api.Item{Text: text, Budget: 1 << 24})
}

// says asks what an item answers.
func says(t *testing.T, s *session.Session, text string, kind int, lines ...string) {
	t.Helper()
	if r := do(s, text); r.Kind != kind || !slices.Equal(r.Lines, lines) {
		t.Errorf("%s: %v, not %d %v", text, r, kind, lines)
	}
}

// names asks for the names of a session and their lines.
func names(t *testing.T, s *session.Session, lines ...string) {
	t.Helper()
	var want []string
	for _, line := range lines {
		want = append(want, strings.Fields(line)[1])
		if got, ok := s.Line(strings.Fields(line)[1]); got != line || !ok {
			t.Errorf("%s, not %s", got, line)
		}
	}
	if got := s.Names(); !slices.Equal(got, want) {
		t.Errorf("%v, not %v", got, want)
	}
}

func TestP13_1_New(t *testing.T) {
	for _, o := range []api.Options{{Words: 63, Stack: 100}, {Words: 100, Stack: 15}, {Words: api.MaxWords + 1, Stack: 100}, {Words: 100, Stack: api.MaxStack + 1}, {}} {
		if s, e := session.New(o); s != nil || e != api.ErrArg {
			t.Error(o, e)
		}
	}
	for _, o := range []api.Options{{Words: 64, Stack: 16}, {Words: api.MaxWords, Stack: api.MaxStack, Every: -1}, {Words: 64, Stack: 16, Every: math.MaxInt}} {
		s, e := session.New(o)
		if e != api.OK || len(s.Names()) != 0 || s.Live() != 0 {
			t.Error(o, e)
		}
	}
}

// The ten examples of the whole.
func TestP13_1_Examples(t *testing.T) {
	s := made(t, 12000, 6000)
	says(t, s, "val x = 6 * 7", api.RDone, "val x = 42 : int")
	says(t, s, "fun fact n = if n < 1 then 1 else n * fact (n - 1); fact 10", api.RDone, "val fact = fn : int -> int", "val it = 3628800 : int")
	says(t, s, "fun map f = fn nil => nil | y :: r => f y :: map f r", api.RDone, "val map = fn : ('a -> 'b) -> 'a list -> 'b list")
	says(t, s, "map (fn y => (y, y * y)) (1 :: 2 :: nil)", api.RDone, "val it = [(1, 1), (2, 4)] : (int * int) list")
	says(t, s, "datatype 'a tree = Leaf | Node of 'a tree * 'a * 'a tree", api.RDone, "datatype 'a tree")
	says(t, s, "Node (Leaf, \"a\\n\", Leaf)", api.RDone, "val it = Node (Leaf, \"a\\n\", Leaf) : string tree")
	says(t, s, "exception Failed of int; (raise Failed 3) handle Failed n => n + x", api.RDone, "exception Failed", "val it = 45 : int")
	says(t, s, "val x = 1; (raise Failed x) + 0", api.RRaised, "uncaught exception Failed 1")
	says(t, s, "x", api.RDone, "val it = 42 : int")
	says(t, s, "val c = ref x; c := !c + 1; !c", api.RDone, "val c = ref 42 : int ref", "val it = () : unit", "val it = 43 : int")
	says(t, s, "1 + \"a\"", api.RType, "no type in 0")
	says(t, s, "val = 2", api.RSyntax, "wrong token at 4")
	says(t, s, "val r = ref nil", api.RType, "no type in 0")
	if r := s.Do(api.Item{Text: "fun loop n = if n < 0 then n else loop n; loop 0", Budget: 1000}); r.Kind != api.RTimeout || !slices.Equal(r.Lines, []string{"timeout"}) {
		t.Error(r)
	}
	says(t, s, "loop", api.RType, "no such name in 0")
	says(t, s, "x div 0", api.RRaised, "uncaught exception Div")
}

func TestP13_1_Kinds(t *testing.T) {
	s := made(t, 12000, 6000)
	says(t, s, "", api.RDone)
	says(t, s, " (* nothing *) ", api.RDone)
	says(t, s, "1 + #", api.RSyntax, "no token at 4")
	says(t, s, "1 + )", api.RSyntax, "wrong token at 4")
	says(t, s, strings.Repeat(" ", 5000), api.RSyntax, "too long at 0")
	says(t, s, strings.Repeat("x ", 1001), api.RSyntax, "too long at 2000")
	says(t, s, strings.Repeat("~ ", 200)+"1", api.RSyntax, "too deep at 0")
	says(t, s, "1; 2; y; 1 + true", api.RType, "no such name in 2")
	says(t, s, "1; 2 + true; y", api.RType, "no type in 1")
	says(t, s, "raise Match", api.RType, "no type in 0")
	says(t, s, "val x : int = 1", api.RSyntax, "no token at 6")
	says(t, s, "(raise Match) + 1", api.RRaised, "uncaught exception Match")
	says(t, s, "exception E of int * string; val _ = raise E (1, \"a\")", api.RRaised, "uncaught exception E (1, \"a\")")
	says(t, s, "val 1 = 2", api.RRaised, "uncaught exception Bind")
	says(t, s, "(fn x => x) = (fn x => x)", api.RRaised, "uncaught exception Equal")
	says(t, s, "fun f n = 1 + f n; f 1", api.RDeep, "too deep")
	says(t, s, "fun f s = f (s ^ s); f \"ab\" + 0", api.RMemory, "out of memory")
	says(t, s, "fun f l = f (1 :: l); f nil + 0", api.RMemory, "out of memory")
	names(t, s)
}

func TestP13_1_Lines(t *testing.T) {
	s := made(t, 12000, 6000)
	says(t, s, "val (a, b :: _) = (\"x\\n\", 3 :: nil); val _ = 1; datatype t = A | B of int; datatype ('x, 'y) u = U of 'y; exception E; exception F of int", api.RDone,
		"val a = \"x\\n\" : string", "val b = 3 : int", "datatype t", "datatype ('a, 'b) u", "exception E", "exception F")
	says(t, s, "datatype 'q w = W of 'q; (A, B 1, U 2 :: nil, W (W E), F 3, F)", api.RDone, "datatype 'a w", "val it = (A, B 1, [U 2], W (W E), F 3, fn) : t * t * ('a, int) u list * exn w w * exn * (int -> exn)")
	says(t, s, "fun f x = g x and g y = f y; (nil, f)", api.RDone, "val f = fn : 'a -> 'b", "val g = fn : 'a -> 'b", "val it = ([], fn) : 'a list * ('b -> 'c)")
	// A value's line is told behind its declaration's run, and by the makers up to it.
	says(t, s, "val r = ref 1; r := 2; r", api.RDone, "val r = ref 1 : int ref", "val it = () : unit", "val it = ref 2 : int ref")
	says(t, s, "val c = A; datatype t = A of int | C; val d = A 1; val e = c; case d of A n => n | C => 0", api.RDone, "val c = A : t", "datatype t", "val d = A 1 : t", "val e = A : t", "val it = 1 : int")
	says(t, s, "~5 :: nil", api.RDone, "val it = [-5] : int list")
	says(t, s, "fun g n = if n = 0 then nil else 1234567890 :: g (n - 1); val l = g 50", api.RDone, "val g = fn : int -> int list", "val l = ["+strings.Repeat("1234567890, ", 41)+"1234567... : int list")
}

func TestP13_1_Budget(t *testing.T) {
	s := made(t, 12000, 6000)
	for _, b := range []int{0, -1, math.MinInt, 1} {
		if r := s.Do(api.Item{Text: "val x = 1", Budget: b}); r.Kind != api.RTimeout || !slices.Equal(r.Lines, []string{"timeout"}) {
			t.Error(b, r)
		}
	}
	for _, i := range []api.Item{{Text: "val x = 1", Budget: math.MaxInt}, {Text: "val x = 1", Budget: 1000, Stop: -1}, {Text: "val x = 1", Budget: 1000, Stop: 1000}, {Text: "val x = 1", Budget: math.MaxInt, Stop: math.MaxInt}} {
		if r := s.Do(i); r.Kind != api.RDone {
			t.Error(i, r)
		}
	}
	if r := s.Do(api.Item{Text: "val x = 1", Budget: 1000, Stop: 1}); r.Kind != api.RInterrupt || !slices.Equal(r.Lines, []string{"interrupted"}) {
		t.Error(r)
	}
	if r := s.Do(api.Item{Text: "val =", Budget: -1, Stop: 1}); r.Kind != api.RSyntax {
		t.Error(r)
	}
	// Steps are counted through the whole item.
	least := func(text string, item func(int) api.Item) int {
		for n := 1; ; n++ {
			i := item(n)
			i.Text = text
			if s.Copy().Do(i).Kind == api.RDone {
				return n
			}
		}
	}
	budget := func(n int) api.Item { return api.Item{Budget: n} }
	stop := func(n int) api.Item { return api.Item{Budget: 1000, Stop: n} }
	a, b := "val y = 1 + 2", "fun f x = x + 1; f 3"
	if n, m, k := least(a, budget), least(b, budget), least(a+";"+b, budget); k != n+m {
		t.Error(n, m, k)
	}
	if n, m := least(a+";"+b, stop), least(a+";"+b, budget); n != m {
		t.Error(n, m)
	}
	if r := s.Do(api.Item{Text: "fun l x = l x; l 1 + 0", Budget: 1000, Stop: 999}); r.Kind != api.RInterrupt {
		t.Error(r)
	}
	if r := s.Do(api.Item{Text: "fun l x = l x; l 1 + 0", Budget: 999, Stop: 1000}); r.Kind != api.RTimeout {
		t.Error(r)
	}
}

func TestP13_2_Asked(t *testing.T) {
	s := made(t, 12000, 6000)
	do(s, "val b = 1; val a = 2; fun f x = x; 3")
	names(t, s, "val b = 1 : int", "val a = 2 : int", "val f = fn : 'a -> 'a", "val it = 3 : int")
	do(s, "val b = ref \"x\"; val (it, c) = (nil, b)")
	names(t, s, "val a = 2 : int", "val f = fn : 'a -> 'a", "val b = ref \"x\" : string ref", "val it = [] : 'a list", "val c = ref \"x\" : string ref")
	do(s, "c := \"y\"")
	names(t, s, "val a = 2 : int", "val f = fn : 'a -> 'a", "val b = ref \"y\" : string ref", "val c = ref \"y\" : string ref", "val it = () : unit")
	for _, n := range []string{"x", "", "val", "A"} {
		if line, ok := s.Line(n); line != "" || ok {
			t.Error(n, line)
		}
	}
	do(s, "val a = 5; val a = 6; val b = a; val a = 7")
	names(t, s, "val f = fn : 'a -> 'a", "val c = ref \"y\" : string ref", "val it = () : unit", "val b = 6 : int", "val a = 7 : int")
	do(s, "datatype t = T; val x = T; datatype t = T of int")
	if line, _ := s.Line("x"); line != "val x = T : t" {
		t.Error(line)
	}
}

func TestP13_2_Copy(t *testing.T) {
	s := made(t, 12000, 6000)
	do(s, "val r = ref 1; val x = 5; datatype t = T")
	c := s.Copy()
	do(c, "r := 2; val x = 6; val y = 7; exception E")
	names(t, s, "val r = ref 1 : int ref", "val x = 5 : int")
	names(t, c, "val r = ref 2 : int ref", "val it = () : unit", "val x = 6 : int", "val y = 7 : int")
	do(s, "r := 3; datatype u = U; val z = U")
	names(t, c, "val r = ref 2 : int ref", "val it = () : unit", "val x = 6 : int", "val y = 7 : int")
	says(t, c, "z", api.RType, "no such name in 0")
	says(t, s, "E", api.RType, "no such name in 0")
	says(t, s, "(T, U, !r)", api.RDone, "val it = (T, U, 3) : t * u * int")
}

func TestP13_2_Nil(t *testing.T) {
	var none *session.Session
	for _, s := range []*session.Session{none, new(session.Session)} {
		if r := s.Do(api.Item{Text: "1", Budget: 100}); r.Kind != 0 || len(r.Lines) != 0 {
			t.Error(r)
		}
		if line, ok := s.Line("x"); line != "" || ok || len(s.Names()) != 0 || s.Live() != 0 || s.Copy() != nil {
			t.Error("nil")
		}
	}
}

func TestP13_2_Live(t *testing.T) {
	s := made(t, 12000, 6000)
	// Whatever the last item's codes need, it is the same each time.
	live := func(text string) int {
		t.Helper()
		for _, i := range []string{text, "val _ = 0"} {
			if r := do(s, i); r.Kind != api.RDone {
				t.Error(i, r)
			}
		}
		return s.Live()
	}
	empty := live("val a = 1")
	for _, c := range []struct {
		text string
		more int
	}{
		{"val t = (1, \"abcdefghi\")", 3 + 4}, {"val u = t", 3 + 4}, {"val t = 2", 3 + 4}, {"val u = t", 0}, {"val (t, u) = (ref 1, 1 :: 2 :: nil)", 2 + 6 + 6}, {"val t = u", 6 + 6}, {"val t = 1; val u = 2", 0}, {"datatype d = D of int", 0}, {"val t = D 5", 3}, {"val t = D 5; val t = \"\"", 2}, {"val t = (); val t = (t, t)", 3}, {"val t = 1", 0},
	} {
		if n := live(c.text) - empty; n != c.more {
			t.Errorf("%s: %d words more, not %d", c.text, n, c.more)
		}
	}
	do(s, "val t = \""+strings.Repeat("x", 800)+"\"; val t = size t")
	if n := s.Live() - empty; n >= 100 {
		t.Error("what can be got no more is kept", n)
	}
	do(s, "val f = let val big = \""+strings.Repeat("x", 800)+"\" in fn x => size big + x end")
	if n := s.Live() - empty; n < 100 {
		t.Error("what a function has with it stays", n)
	}
	says(t, s, "f 2", api.RDone, "val it = 802 : int")
}

func TestP13_5_Rollback(t *testing.T) {
	for _, text := range []string{
		"val x = 9; val y = 8; r := 5; 1 div 0", "r := 5; fun f n = f n; f 1", "r := 5; datatype t = T; fun f n = 1 + f n; f 1", "r := 5; exception X; fun f s = f (s ^ s); f \"a\"", "r := 5; val f = 1; val f = 2; val 1 = 2", "val x = 1; 2 + true", "val x = 1; y", "val x = 1 )", "exception X; datatype t = A | B; raise X; 1", "g 5",
	} {
		a, b := made(t, 12000, 6000), made(t, 12000, 6000)
		for _, s := range []*session.Session{a, b} {
			do(s, "val r = ref 1; val x = 2; fun f y = (r := y; y); fun g y = (r := y; raise Match) + 1; datatype t = O | P of int")
		}
		live, lines := a.Live(), []string{}
		for _, n := range a.Names() {
			line, _ := a.Line(n)
			lines = append(lines, line)
		}
		if r := a.Do(api.Item{Text: text, Budget: 100000}); r.Kind == api.RDone {
			t.Error(text, r)
		}
		if a.Live() != live {
			t.Error(text, "Live", a.Live(), live)
		}
		names(t, a, lines...)
		for _, then := range []string{"(!r, x, f 3, !r)", "T", "X", "P 1", "datatype t = Q; Q", "exception Y of int; val _ = raise Y 1", "val x = 5; x", "f 7", "r"} {
			p, q := do(a, then), do(b, then)
			if p.Kind != q.Kind || !slices.Equal(p.Lines, q.Lines) || a.Live() != b.Live() {
				t.Errorf("%s, then %s: %v, not %v", text, then, p, q)
			}
		}
	}
}

func TestW4_W5_Functions(t *testing.T) {
	s := made(t, 12000, 6000)
	do(s, "val x = 1; fun f y = x + y; val x = 100")
	says(t, s, "f 1", api.RDone, "val it = 2 : int")
	do(s, "fun counter n = let val r = ref n in fn d => (r := !r + d; !r) end; val a = counter 0; val b = counter 10")
	says(t, s, "(a 1, b 1, a 1, b 5)", api.RDone, "val it = (1, 11, 2, 16) : int * int * int * int")
	says(t, s, "a 5; 1 div 0", api.RRaised, "uncaught exception Div")
	says(t, s, "(a 0, b 0)", api.RDone, "val it = (2, 16) : int * int")
	do(s, "fun twice f = fn x => f (f x); fun id x = x; val l = (fn x => x + 1) :: (fn x => x * 10) :: nil; fun all l x = case l of nil => x | f :: r => all r (f x)")
	says(t, s, "(twice twice (fn x => x * 2) 3, id id 5, id \"s\", all l 4, (twice all) l 1)", api.RType, "no type in 0")
	says(t, s, "(twice twice (fn x => x * 2) 3, id id 5, id \"s\", all l 4, twice (all l) 1)", api.RDone, "val it = (48, 5, \"s\", 50, 210) : int * int * string * int * int")
	do(s, "val r = ref (fn x => x + 1); r := (fn x => x - 1)")
	says(t, s, "!r 5", api.RType, "no type in 0")
	says(t, s, "(!r) 5", api.RDone, "val it = 4 : int")
}

func TestP13_9_P13_10_WithoutEnd(t *testing.T) {
	s := made(t, 9000, 6000)
	forms := []string{`val x = (1, "abcdefghijklmnopqrstuvwxyz")`, `fun x y = y + 1`, `val x = ref (1 :: 2 :: nil)`, `let val a = 5 in fn b => a + b end`, `val x = size "abc"; val it = x`, `datatype t = T of int; val x = T 1`}
	live := map[int]int{}
	for i := range 3000 {
		k := i % len(forms)
		if r := s.Do(api.Item{Text: forms[k], Budget: 10000}); r.Kind != api.RDone {
			t.Fatal(i, r)
		}
		if i >= len(forms) {
			if was, ok := live[k]; ok && was != s.Live() {
				t.Fatal("something is left", i, was, s.Live())
			}
			live[k] = s.Live()
		}
	}
	if got := s.Names(); !slices.Equal(got, []string{"it", "x"}) {
		t.Error(got)
	}
}

func TestP13_1_Globals(t *testing.T) {
	s := made(t, api.MaxWords, 6000)
	for i := range api.MaxGlobal {
		if r := do(s, "val v"+strconv.Itoa(i)+" = "+strconv.Itoa(i)); r.Kind != api.RDone {
			t.Fatal(i, r)
		}
	}
	says(t, s, "val w = 1", api.RMemory, "out of memory")
	says(t, s, "val v5 = 1", api.RMemory, "out of memory")
	says(t, s, "val _ = v1023", api.RDone)
	says(t, s, "val = 1", api.RSyntax, "wrong token at 4")
	if line, _ := s.Line("v5"); line != "val v5 = 5 : int" || len(s.Names()) != api.MaxGlobal {
		t.Error(line)
	}
	s = made(t, api.MaxWords, 6000)
	for i := range api.MaxGlobal - 1 {
		do(s, "val v"+strconv.Itoa(i)+" = "+strconv.Itoa(i))
	}
	for i := range 20 {
		says(t, s, "val v5 = "+strconv.Itoa(i), api.RDone, "val v5 = "+strconv.Itoa(i)+" : int")
	}
	says(t, s, "val (v5, w) = (1, 2)", api.RMemory, "out of memory")
}

// row is items that must fit into a session of some words and stack, each with a budget.
func row(t *testing.T, words, stack, budget int, items ...string) *session.Session {
	t.Helper()
	s := made(t, words, stack)
	for _, i := range items {
		if r := s.Do(api.Item{Text: i, Budget: budget}); r.Kind != api.RDone {
			t.Errorf("%s: %v", i, r)
		}
	}
	return s
}

func TestP13_11_Table(t *testing.T) {
	s := row(t, 12000, 6000, 999, "val x = 1 + 2", "x * x")
	if r := s.Do(api.Item{Text: "x div 0", Budget: 999}); r.Kind != api.RRaised || r.Lines[0] != "uncaught exception Div" {
		t.Error(r)
	}
	row(t, 12000, 6000, 5000, "val x = 6 * 7")
	for _, f := range []string{"fun f n = if n = 0 then 7 else f (n - 1)", "fun f n = case n of 0 => 7 | m => f (m - 1)", "fun f n = let val m = n - 1 in if n < 1 then 7 else f m end", "fun f n = if n = 0 then 7 else g (n, (n, n)) and g (n, p) = f (n - 1)"} {
		s := row(t, 7000, 2500, 999, f)
		for _, n := range []string{"0", "1", "5999"} {
			says(t, s, "f "+n, api.RDone, "val it = 7 : int")
		}
	}
	f := `fun f (n, x) = if n = 0 then x else f (n - 1, let val r = ref (n, "abcdefgh" ^ itos n) val g = fn y => (!r, y) in (r := (1, "z"); case g x of ((a, b), (c, d)) => (c + a, d + size b)) end)`
	for _, n := range []string{"0", "1", "1499"} {
		s := row(t, 7000, 4000, 1<<24, f+"; f ("+n+", (0, 0))")
		if line, _ := s.Line("it"); line != "val it = ("+n+", "+n+") : int * int" {
			t.Error(line)
		}
	}
	s = row(t, 30000, 40000, 1<<22, "fun f n = if n = 0 then nil else (n, n * n) :: f (n - 1); f 39")
	if line, _ := s.Line("it"); !strings.HasPrefix(line, "val it = [(39, 1521), (38, 1444), ") || !strings.HasSuffix(line, ", (1, 1)] : (int * int) list") {
		t.Error(line)
	}
	for _, form := range []string{`val x = (1, "abcdefghijklmnopqrstuvwxyz")`, `fun x y = y + 1`, `val x = ref (1 :: 2 :: nil)`, `let val a = 5 in fn b => a + b end`} {
		row(t, 9000, 6000, 10000, slices.Repeat([]string{form}, 1300)...)
	}
}

func TestP13_11_Deep(t *testing.T) {
	for _, n := range []int{0, 1, 30, 1999} {
		for _, stack := range []int{100, 1000, api.MaxStack} {
			s := made(t, 30000, stack)
			r := s.Do(api.Item{Text: "fun f n = if n = 0 then 0 else 1 + f (n - 1); f " + strconv.Itoa(n), Budget: 1 << 20})
			if r.Kind != api.RDone && r.Kind != api.RDeep || r.Kind == api.RDone && r.Lines[1] != "val it = "+strconv.Itoa(n)+" : int" || stack == api.MaxStack && r.Kind != api.RDone {
				t.Error(n, stack, r)
			}
		}
	}
}

// ends does items that must fit into a session of 30000 words and a stack of 40000, and asks for the last one's line.
func ends(t *testing.T, line string, items ...string) {
	t.Helper()
	s := row(t, 30000, 40000, 1<<20, items...)
	if got, _ := s.Line("it"); got != line {
		t.Errorf("%s, not %s", got, line)
	}
}

// listed are the numbers from one to another, written with ::.
func listed(from, to int) string {
	s := ""
	for n := from; n <= to; n++ {
		s += strconv.Itoa(n*7919%101) + " :: "
	}
	return s + "nil"
}

func TestP13_11_Programs(t *testing.T) {
	ends(t, "val it = 1491 : int", "fun fold f z = fn nil => z | x :: r => f (x, fold f z r)", "val l = "+listed(1, 30), "fold (fn (x, y) => x + y) 0 l", "fold (fn (x, y) => x + y) 0 l", "fold (fn (x, y) => x + y) 0 l")
	sorting := []string{"fun put x = fn nil => x :: nil | y :: r => if x < y then x :: y :: r else y :: put x r", "fun sort l = case l of nil => nil | x :: r => put x (sort r)", "sort (" + listed(1, 25) + ")", "fun sorted l = case l of x :: y :: r => x <= y andalso sorted (y :: r) | _ => true", "sorted it"}
	ends(t, "val it = true : bool", sorting...)
	ends(t, "val it = [3, 6, 9, 12, 15, 22, 25, 28, 31, 34, 41, 44, 47, 50, 53, 63, 66, 69, 72, 75, 82, 85, 88, 91, 94] : int list", sorting[:3]...)
	ends(t, "val it = [3, 6, 9, 12, 22, 25, 28, 31, 41, 44, 47, 50, 63, 66, 69, 72, 82, 85, 88, 91] : int list", "datatype 'a tree = Leaf | Node of 'a tree * 'a * 'a tree", "fun put (x, t) = case t of Leaf => Node (Leaf, x, Leaf) | Node (l, y, r) => if x < y then Node (put (x, l), y, r) else Node (l, y, put (x, r))", "fun all l = case l of nil => Leaf | x :: r => put (x, all r)", "fun out (t, l) = case t of Leaf => l | Node (a, x, b) => out (a, x :: out (b, l))", "out (all ("+listed(1, 20)+"), nil)")
	ends(t, "val it = (3, -1, 21) : int * int * int", "fun gcd (a, b) = if b = 0 then a else gcd (b, a mod b)", "(7 div 2, 7 mod ~2, gcd (1071, 462))")
	ends(t, "val it = true : bool", "fun turned s = let fun go n = if n = size s then \"\" else go (n + 1) ^ str (ord (s, n)) in go 0 end", "val s = \"0123456789abcdefghijABCDEFGHIJ!?-+*/<>()0123456789abcdefghijABCDEFGHIJ!?-+*/<>()0123456789abcdefghij\"", "(size s, turned s)", "turned (turned s) = s")
	ends(t, "val it = 4 : int", "fun ok (q, d, l) = case l of nil => true | x :: r => x <> q andalso x <> q + d andalso x <> q - d andalso ok (q, d + 1, r)", "fun ways n = let fun go (k, l) = if k = 0 then 1 else let fun try q = if q > n then 0 else (if ok (q, 1, l) then go (k - 1, q :: l) else 0) + try (q + 1) in try 1 end in go (n, nil) end", "ways 6")
	ends(t, "val it = 125 : int", "fun num n = fn f => fn x => if n = 0 then x else f (num (n - 1) f x)", "fun add a b = fn f => fn x => a f (b f x)", "fun mul a b = fn f => a (b f)", "fun pow a b = b (mul a) (num 1)", "fun int n = n (fn x => x + 1) 0", "(int (add (num 4) (num 5)), int (mul (num 5) (num 5)))", "int (pow (num 5) (num 3))")
	ends(t, "val it = 465 : int", "val r = ref 0", "fun up n = if n = 0 then 0 else (r := !r + n; up (n - 1))", "up 30", "!r")
	ends(t, "val it = 9 : int", "exception A of int", "exception B", "((if 1 + (2 * (3 - 1)) > 4 then raise A (1 + 2) else 5) handle B => 1) handle A n => ((raise B) handle B => n * n)")
}

func TestP13_11_Counters(t *testing.T) {
	s := row(t, 30000, 40000, 9999, "fun counter n = let val r = ref n in fn d => if d < 0 then raise Match else (r := !r + d; !r) end", "val a = counter 0", "val b = counter 100")
	for i := range 20 {
		text := []string{"a 5", "b 7", "a (~1)", "(b 1; b (~1))"}[i%4]
		r := s.Do(api.Item{Text: text, Budget: 9999})
		if want := []int{api.RDone, api.RDone, api.RRaised, api.RRaised}[i%4]; r.Kind != want {
			t.Error(text, r)
		}
	}
	says(t, s, "(a 0, b 0)", api.RDone, "val it = (25, 135) : int * int")
	s = row(t, 30000, 40000, 9999, slices.Repeat([]string{"val p = (1, 2)"}, 30)...)
	says(t, s, "p", api.RDone, "val it = (1, 2) : int * int")
	s = row(t, 12000, 6000, 9999, "val r = ref 0")
	var kept *session.Session
	for i := range 24 {
		if r := s.Do(api.Item{Text: "r := !r + " + strconv.Itoa(i) + "; !r", Budget: 9999}); r.Kind != api.RDone {
			t.Error(r)
		}
		if i == 9 {
			kept = s.Copy()
		}
	}
	says(t, s, "!r", api.RDone, "val it = 276 : int")
	says(t, kept, "!r", api.RDone, "val it = 45 : int")
}

func TestP13_4_Enough(t *testing.T) {
	s := made(t, api.MaxWords, api.MaxStack)
	text := strings.Repeat("x", 500)
	for _, i := range []string{
		"val s = \"" + text + "\"; val u = s ^ s ^ s ^ s; size u", "fun f n = if n = 0 then 0 else 1 + f (n - 1); f 90", "fun g n = if n = 0 then nil else (n, n, n) :: g (n - 1); g 60", "val (a, b) = (g 40, g 40); a = b", "fun f x = fn y => fn z => (x, y, z, fn w => (x, w)); (f 1 2 3; 0)",
		"let val a = \"" + text + "\" val b = \"" + text + "\" in a = b end", "1 + 2 * (3 + 4 * (5 + 6 * (7 + 8 * (9 + 10 * (11 + 12 * (13 + 14 * (15 + 16)))))))", "fn (a, (b, (c, (d, (e, (f, (g, (h, (i, (j, k)))))))))) => a + b + c + d + e + f + g + h + i + j + k", "it (1, (2, (3, (4, (5, (6, (7, (8, (9, (10, 11))))))))))",
	} {
		if r := s.Do(api.Item{Text: i, Budget: 1 << 30}); r.Kind != api.RDone {
			t.Errorf("%.60s: %v", i, r)
		}
	}
}

func TestP13_6_More(t *testing.T) {
	items := []string{"fun f n = if n = 0 then nil else (n, itos n) :: f (n - 1)", "f 10", "val s = f 20; s = f 20", "f 5 = f 6", "val r = ref (f 3); r := f 2; (r, !r)", "fun g n = 1 + g (n - 1) handle Match => 0; (raise Match) + g 3"}
	var want []string
	for _, o := range []api.Options{{Words: 3000, Stack: 2000}, {Words: 3000, Stack: 2000, Every: 1}, {Words: 3001, Stack: 2000, Every: 5}, {Words: api.MaxWords, Stack: api.MaxStack}, {Words: 9000, Stack: 2001, Every: 1000}} {
		s, _ := session.New(o)
		var got []string
		for _, i := range items {
			r := s.Do(api.Item{Text: i, Budget: 100000 + o.Words})
			got = append(got, strconv.Itoa(r.Kind)+strings.Join(r.Lines, "\n"))
		}
		if want == nil {
			want = got
		}
		if !slices.Equal(got, want) {
			t.Errorf("%v: %q\nnot %q", o, got, want)
		}
	}
	if strings.Count(strings.Join(want, " "), "val") < 6 {
		t.Error(want)
	}
}

func TestW3_Tails(t *testing.T) {
	s := made(t, 1000, 100)
	do(s, "fun loop n = if n = 0 then 7 else loop (n - 1); fun even n = if n = 0 then true else odd (n - 1) and odd n = if n = 0 then false else even (n - 1)")
	says(t, s, "loop 100000", api.RDone, "val it = 7 : int")
	says(t, s, "even 100000", api.RDone, "val it = true : bool")
	do(s, "fun down n = case n of 0 => \"end\" | _ => let val m = n - 1 in if m < 0 then \"\" else (m; (fn k => down k) m) end")
	says(t, s, "down 50000", api.RDone, "val it = \"end\" : string")
	do(s, "fun fold f z l = case l of nil => z | x :: r => fold f (f (x, z)) r; fun up n l = if n = 0 then l else up (n - 1) (n :: l)")
	says(t, s, "fold (fn (a, b) => a + b) 0 (up 50 nil)", api.RDone, "val it = 1275 : int")
}
