package types_test

import (
	"reflect"
	"strings"
	"testing"

	"kindling/api"
	"kindling/num"
	"kindling/rts"
	"kindling/syntax"
	"kindling/types"
)

// read is a text's declarations.
func read(t *testing.T, s string) []api.Decl {
	t.Helper()
	l, at, e := syntax.Parse(s)
	if e != api.OK {
		t.Fatalf("%s: %d at %d", s, e, at)
	}
	return l
}

// told is what Add tells, as text: name : type, with ; between declarations.
func told(l [][]api.Bind) string {
	var decls []string
	for _, binds := range l {
		var out []string
		for _, b := range binds {
			out = append(out, b.Name+" : "+types.Text(b.Scheme.Type))
		}
		decls = append(decls, strings.Join(out, ", "))
	}
	return strings.Join(decls, "; ")
}

// add adds a text's declarations, which have types.
func add(t *testing.T, x *types.Env, s string) string {
	t.Helper()
	l, at, e := x.Add(read(t, s))
	if e != api.OK {
		t.Errorf("%s: %d at %d", s, e, at)
	}
	return told(l)
}

// has asks that a text's declarations have these types.
func has(t *testing.T, s, want string) {
	t.Helper()
	if got := add(t, types.New(), s); got != want {
		t.Errorf("%s\nhas %s\nnot %s", s, got, want)
	}
}

// refused asks that a text's declarations have an error at a place, and that nothing changes.
func refused(t *testing.T, s string, at int, e api.Errno) {
	t.Helper()
	x := types.New()
	add(t, x, "val before = 1; datatype d = D of int; exception X")
	was := x.Copy()
	if l, p, f := x.Add(read(t, s)); len(l) != 0 || p != at || f != e {
		t.Errorf("%s: %s, %d at %d, not %d at %d", s, told(l), f, p, e, at)
	}
	if !reflect.DeepEqual(state(x), state(was)) {
		t.Error(s, "something has changed")
	}
}

// state is all that an environment tells.
func state(x *types.Env) []any {
	stamp, exn := x.Stamps()
	return []any{x.Values(), x.Makers(), stamp, exn}
}

const prelude = "datatype 'a tree = Leaf | Node of 'a tree * 'a * 'a tree; exception Failed of int; exception Plain; datatype ('a, 'b) two = One of 'a | Two of 'b | None;"

func TestP9_1_Examples(t *testing.T) {
	has(t, "fun map f = fn nil => nil | x :: r => f x :: map f r", "map : ('a -> 'b) -> 'a list -> 'b list")
	has(t, "val r = ref (1 :: nil)", "r : int list ref")
	refused(t, "val r = ref nil", 0, api.ErrType)
	has(t, "val x = 6 * 7; fun fact n = if n < 1 then 1 else n * fact (n - 1); fact 10", "x : int; fact : int -> int; it : int")
	has(t, "fn y => (y, y)", "it : 'a -> 'a * 'a")
}

func TestP9_1_Expressions(t *testing.T) {
	for _, c := range [][2]string{
		{"1", "int"}, {"\"a\"", "string"}, {"()", "unit"}, {"(1, \"a\", ())", "int * string * unit"}, {"true", "bool"}, {"nil", "'a list"}, {"Match", "exn"}, {"Failed", "int -> exn"}, {"Failed 1", "exn"}, {"Node", "'a tree * 'a * 'a tree -> 'a tree"},
		{"Node (Leaf, 1, Leaf)", "int tree"}, {"Leaf", "'a tree"}, {"One 1", "(int, 'a) two"}, {"(One 1, Two 1)", "(int, 'a) two * ('b, int) two"}, {"(Two nil, None)", "('a, 'b list) two * ('c, 'd) two"},
		{"fn x => x", "'a -> 'a"}, {"fn x => fn y => x", "'a -> 'b -> 'a"}, {"fn (x, y) => (y, x)", "'a * 'b -> 'b * 'a"}, {"fn f => fn g => fn x => f (g x)", "('a -> 'b) -> ('c -> 'a) -> 'c -> 'b"}, {"fn 0 => \"a\" | n => \"b\"", "int -> string"}, {"fn \"a\" => 1 | _ => 2", "string -> int"}, {"fn () => ()", "unit -> unit"},
		{"fn x :: _ => x", "'a list -> 'a"}, {"fn (Node (_, x, _)) => x", "'a tree -> 'a"}, {"fn (Failed n) => n | Plain => 0", "exn -> int"}, {"fn (One x) => x | Two y => y | None => 0", "(int, int) two -> int"},
		{"if true then 1 else 2", "int"}, {"fn x => if x then x else false", "bool -> bool"}, {"case 1 of 1 => \"a\" | _ => \"b\"", "string"}, {"fn x => case x of (a, b) => a b", "('a -> 'b) * 'a -> 'b"},
		{"1 handle Failed n => n | _ => 2", "int"}, {"fn x => x handle _ => 1", "int -> int"}, {"fn x => raise x", "exn -> 'a"}, {"fn x => (raise Failed x) + 1", "int -> int"}, {"(1; \"a\"; ())", "unit"}, {"let val x = 1 in (x; x + 1) end", "int"},
		{"1 + 2 - 3 * 4 div 5 mod 6", "int"}, {"\"a\" ^ \"b\"", "string"}, {"1 < 2", "bool"}, {"1 <= 2 andalso 3 > 4 orelse 5 >= 6", "bool"}, {"fn x => fn y => x = y", "'a -> 'a -> bool"}, {"fn x => (x, 1) <> (2, x)", "int -> bool"}, {"fn r => r := 1", "int ref -> unit"}, {"fn (r, x) => r := x", "'a ref * 'a -> unit"}, {"1 :: 2 :: nil", "int list"}, {"fn x => x :: nil", "'a -> 'a list"},
		{"~1", "int"}, {"not true", "bool"}, {"ref 1", "int ref"}, {"fn x => ref x", "'a -> 'a ref"}, {"fn r => !r", "'a ref -> 'a"}, {"size \"a\"", "int"}, {"str 65", "string"}, {"ord (\"a\", 0)", "int"}, {"fn p => ord p", "string * int -> int"}, {"itos 5", "string"},
		{"(fn x => x) 1", "int"}, {"fn x => fn (y, _) => if x = y then x else y", "'a -> 'a * 'b -> 'a"}, {"fn f => (f 1, f 2)", "(int -> 'a) -> 'a * 'a"}, {"let fun f x = x in (f 1, f \"a\") end", "int * string"}, {"let val (f, g) = (fn x => x, fn x => x) in (f 1, f (), g \"a\") end", "int * unit * string"},
		{"fn x => let val y = x in (y, y) end", "'a -> 'a * 'a"}, {"fn x => let fun f y = (x, y) in (f 1, f \"a\") end", "'a -> ('a * int) * ('a * string)"}, {"let val x = 1 val x = \"a\" in x end", "string"}, {"let fun f x = g x and g x = f x in (f 1 + 1, g 2 ^ \"\") end", "int * string"}, {"fn x => let val r = ref x in r end", "'a -> 'a ref"},
		{"let val r = ref nil in (r := 1 :: !r; !r) end", "int list"}, {"fn x => let val y = !x in y end", "'a ref -> 'a"}, {"(fn x => fn x => x) 1 2", "int"}, {"let in 1 end", "int"}, {"let val f = fn x => x val g = f in (g 1, g ()) end", "int * unit"}, {"let val _ = raise Match in 1 end", "int"},
	} {
		// In a function, so that variables may be left whatever it is.
		has(t, prelude+"val f = fn () => "+c[0], "; ; ; ; f : unit -> "+c[1])
	}
}

func TestP9_1_Declarations(t *testing.T) {
	for _, c := range [][2]string{
		{"val (x, y :: z) = (1, nil)", "x : int, y : 'a, z : 'a list"}, {"val _ = 1", ""}, {"val (a, b) = (fn x => x, fn y => (y, y))", "a : 'a -> 'a, b : 'a -> 'a * 'a"}, {"val (b, a) = (1 + 1, \"x\")", "b : int, a : string"},
		{"fun f x = x and g y = f y", "f : 'a -> 'a, g : 'a -> 'a"}, {"fun f x = g x and g y = y + 1 and h z = z", "f : int -> int, g : int -> int, h : 'a -> 'a"}, {"fun f x y z = x", "f : 'a -> 'b -> 'c -> 'a"}, {"fun f (x, 1) \"a\" () nil = x", "f : 'a * int -> string -> unit -> 'b list -> 'a"},
		{"fun f x = f x", "f : 'a -> 'b"}, {"fun f f = f", "f : 'a -> 'a"}, {"fun f x = 1 and g f = f 2", "f : 'a -> int, g : (int -> 'a) -> 'a"}, {"val x = 1; val y = x; val x = \"a\"; val z = x", "x : int; y : int; x : string; z : string"},
		{"val f = fn x => x; f 1; f \"a\"", "f : 'a -> 'a; it : int; it : string"}, {"val f = fn x => x; val g = f", "f : 'a -> 'a; g : 'a -> 'a"}, {"fun id x = x; val x = (id, id)", "id : 'a -> 'a; x : ('a -> 'a) * ('b -> 'b)"}, {"val x = nil :: nil", "x : 'a list list"},
		{"val _ = raise Match", ""}, {"val (_, x) = (raise Match, 1)", "x : int"}, {"exception E of int list; val x = E (1 :: nil); fun f (E l) = l", "; x : exn; f : exn -> int list"}, {"datatype t = A | B of t; B (B A)", "; it : t"}, {"datatype int = A; datatype t = T of int; T A", "; ; it : t"}, {"val int = 1; datatype t = A of int; A int", "int : int; ; it : t"}, {"datatype ('a, 'b, 'c) t = A of 'c * 'a; A", "; it : 'a * 'b -> ('b, 'c, 'a) t"}, {"datatype 'a t = A of ('a * 'a) t | B of 'a; A (B (1, 2))", "; it : int t"},
		{"datatype t = A; val x = A; datatype t = A | B; val y = A; (x, y)", "; x : t; ; y : t; it : t * t"}, {"fun f 0 = 1; fun g x = f (f x)", "f : int -> int; g : int -> int"}, {"datatype t = F of t -> int ref list; F", "; it : (t -> int ref list) -> t"}, {"datatype 'a t = A of unit * string * bool * exn", ""},
		{"val x = let val y = 1 in y end", "x : int"}, {"fun f x = let fun g y = f y in g x end", "f : 'a -> 'b"}, {"fun apply f x = f x; fun twice f = fn x => f (f x); fun g x = twice twice x", "apply : ('a -> 'b) -> 'a -> 'b; twice : ('a -> 'a) -> 'a -> 'a; g : ('a -> 'a) -> 'a -> 'a"},
	} {
		has(t, c[0], c[1])
	}
}

func TestP9_1_WrongNames(t *testing.T) {
	for _, s := range []string{
		"y", "fn x => y", "val x = x", "fun f x = y", "fun f x = g x", "let val x = 1 in y end", "let val x = x in 1 end", "let val x = 1 val y = z in 1 end", "(let val x = 1 in x end, x)", "(fn x => x) x", "fn x => (case x of y => 1 | z => y)", "1 handle y => x", "x handle x => x", "fn (x, y) => let fun f a = b in 1 end",
		"A", "fn A => 1", "fn (A x) => 1", "B 1", "val Y = 1", "1 handle Y => 2", "case 1 of Y _ => 1", "fun f (Y x) = 1", "let val Y = 1 in 2 end",
		"fn (x, x) => 1", "val (x, x) = 1", "fun f x x = 1", "fun f (x, y) (z, x) = 1", "fn (x :: x) => 1", "case 1 of (x, (y, x)) => 1", "fun f x = 1 and f y = 2", "let fun f x = 1 and f y = 2 in 3 end", "let val (x, x) = 1 in 2 end", "1 handle D (x, x) => 2",
		"datatype ('a, 'a) t = A", "datatype t = A | B | A", "datatype t = true", "datatype t = A | false of int", "datatype t = nil", "exception nil", "exception true of int", "datatype t = A of 'a", "datatype 'a t = A of 'b", "exception A of 'a", "datatype t = A of u", "exception A of t list", "datatype t = A of int -> u", "datatype 'a t = A of ('a, u) t",
	} {
		refused(t, s, 0, api.ErrName)
	}
	refused(t, "val x = 1; val y = x + true; z", 1, api.ErrType)
	refused(t, "val x = 1; val y = z + true; 1 + true", 1, api.ErrName)
	refused(t, "val x = (y, 1 + \"a\")", 0, api.ErrName)
	refused(t, "val x = 1; val y = 2; val (z, z) = 3", 2, api.ErrName)
	refused(t, "datatype t = A of (int, int) list | B of u", 0, api.ErrName)
	has(t, "fn x => (fn x => x, case x of x => x)", "it : 'a -> ('b -> 'b) * 'a")
	has(t, "datatype t = A; datatype u = A | B; fun f x = 1; fun f x = \"a\"", "; ; f : 'a -> int; f : 'a -> string")
}

func TestP9_1_NoTypes(t *testing.T) {
	for _, s := range []string{
		"1 + \"a\"", "\"a\" + 1", "1 ^ \"a\"", "1 < \"a\"", "1 = \"a\"", "1 andalso true", "true orelse 1", "1 := 1", "ref 1 := \"a\"", "1 :: 2", "1 :: \"a\" :: nil", "~\"a\"", "not 1", "!1", "size 1", "str \"a\"", "ord 1", "ord (1, 1)", "itos \"a\"", "1 2", "(fn x => x) 1 2", "fn x => x x", "(1, 2) = (1, 2, 3)", "() = (1, 2)",
		"if 1 then 2 else 3", "if true then 1 else \"a\"", "case 1 of \"a\" => 1", "case 1 of 1 => 1 | 2 => \"a\"", "fn 1 => 1 | \"a\" => 2", "fn 1 => 1 | 2 => \"a\"", "1 handle 1 => 2", "1 handle _ => \"a\"", "raise 1", "raise D 1", "fn (x, 1) => x | () => 1", "fun f x = f", "fun f 1 = 2 and g x = f \"a\"", "fun f x = x x", "fun f x = (f 1, f \"a\")", "fn f => (f 1, f \"a\")",
		"D 1 2", "D \"a\"", "fn D => 1", "fn (X 1) => 1", "X 1", "fn (D \"a\") => 1",
		"val (x, y) = 1", "val 1 = \"a\"", "val x :: y = 1", "ref nil", "val r = ref nil", "val f = (fn x => x) (fn x => x)", "val x = if true then nil else nil", "raise Match", "val (x, y) = (raise Match, 1)", "val (x, _) = (1; (nil, nil))", "let in nil end", "val f = let val x = 1 in fn y => y end",
		"val l = nil handle _ => nil", "fn x => let val r = ref nil in (r := 1 :: nil; r := \"a\" :: nil) end", "let val r = ref nil in (r := 1 :: nil; r := \"a\" :: nil) end", "let val f = (fn x => x) (fn x => x) in (f 1, f \"a\") end", "fn x => let fun f y = x = y in (f 1, f \"a\") end",
		"datatype t = A of int list list | B of list", "datatype t = A of (int, int) list", "datatype t = A of int int", "datatype 'a t = A of t", "datatype t = A of int t", "exception E of ref", "exception E of (int, int) ref",
	} {
		refused(t, s, 0, api.ErrType)
	}
	refused(t, "1; val r = ref nil; 2", 1, api.ErrType)
	has(t, "datatype d = D of int; val y = (raise Match; 1)", "; y : int")
}

func TestP9_1_ForeignStamps(t *testing.T) {
	x := types.New()
	add(t, x, "datatype t = A; val a = A; datatype t = A")
	if _, _, e := x.Add(read(t, "a = A")); e != api.ErrType {
		t.Error("two datatypes of one name", e)
	}
}

func TestP9_1_Refused(t *testing.T) {
	var none *types.Env
	if l, at, e := none.Add(nil); len(l) != 0 || at != 0 || e != api.ErrNil {
		t.Error(at, e)
	}
	x := types.New()
	if l, at, e := x.Add(append(read(t, "1; z"), api.Decl{})); len(l) != 0 || at != 0 || e != api.ErrForm {
		t.Error(at, e)
	}
	if l, at, e := x.Add(nil); len(l) != 0 || at != 0 || e != api.OK {
		t.Error(at, e)
	}
	l, _, _ := x.Add(read(t, "datatype t = A; exception B; val _ = 1"))
	if len(l) != 3 || len(l[0])+len(l[1])+len(l[2]) != 0 {
		t.Error(l)
	}
}

func TestP9_1_Values(t *testing.T) {
	for s, value := range map[string]bool{
		"nil": true, "(nil, fn x => x, 1, \"a\", ())": true, "Some nil": true, "nil :: nil": true, "(nil, Some (Some nil)) :: nil": true, "(fn x => x) nil": false, "ref nil": false, "if true then nil else nil": false, "let in nil end": false, "(1; nil)": false, "Some (id nil)": false, "(nil, id nil)": false, "id nil :: nil": false, "nil :: id nil": false,
		"case 1 of _ => nil": false, "raise Match": false, "nil handle _ => nil": false, "id": true, "Some": true, "mk nil": false,
	} {
		x := types.New()
		add(t, x, "datatype 'a some = Some of 'a; fun id x = x; fun mk x = Some x")
		_, _, e := x.Add(read(t, "val v = "+s))
		if (e == api.OK) != value {
			t.Error(s, e)
		}
	}
}

// wide is the type of a tuple of so many ints.
func wide(n int) string { return "(" + strings.TrimSuffix(strings.Repeat("1, ", n), ", ") + ")" }

func TestP9_1_MaxType(t *testing.T) {
	// A tuple of n has n + 1 parts; with one more function around it, two more.
	has(t, "val _ = "+wide(299), "")
	refused(t, "val _ = "+wide(300), 0, api.ErrType)
	refused(t, "1; val x = 1; (let val x = "+wide(300)+" in 1 end)", 2, api.ErrType)
	has(t, "val _ = (let val x = "+wide(299)+" in 1 end)", "")
	refused(t, "fun f x = "+wide(298), 0, api.ErrType) // f's own type has 1 + 1 + 299
	has(t, "val _ = fn "+strings.ReplaceAll(wide(297), "1", "_")+" => 1", "")
	refused(t, "val _ = fn "+strings.ReplaceAll(wide(299), "1", "_")+" => 1", 0, api.ErrType)
	// The types double, whichever end they grow from: that they have none is told soon.
	for _, s := range []string{
		"fun f x = (x, x); fun g x = f (f (f (f (f (f (f (f (f (f (f (f (f (f x)))))))))))))",
		"fn a => let val b = (a, a) val c = (b, b) val d = (c, c) val e = (d, d) val f = (e, e) val g = (f, f) val h = (g, g) val i = (h, h) in 1 end",
		"fn a => fn b => fn c => fn d => fn e => fn f => fn g => fn h => fn i => fn j => (i = (j, j), h = (i, i), g = (h, h), f = (g, g), e = (f, f), d = (e, e), c = (d, d), b = (c, c), a = (b, b))",
		"fn a => fn b => fn c => fn d => fn e => fn f => fn g => fn h => fn i => fn j => (a = (b, b), b = (c, c), c = (d, d), d = (e, e), e = (f, f), f = (g, g), g = (h, h), h = (i, i), i = (j, j))",
		"let val a = fn x => (x, x) in let val b = fn x => a (a x) in let val c = fn x => b (b x) in let val d = fn x => c (c x) in let val e = fn x => d (d x) in let val f = fn x => e (e x) in f (f 1) end end end end end end",
	} {
		l := read(t, s)
		if _, at, e := types.New().Add(l); at != len(l)-1 || e != api.ErrType {
			t.Errorf("%s: %d at %d", s, e, at)
		}
	}
	// Sixty variables, each one a pair of the next one, from the first one on: the first one is used then.
	chain, names := "", "v0"
	for i := range 60 {
		names += " v" + num.Text(int64(i+1))
		chain += strings.ReplaceAll(strings.ReplaceAll("A = (B, B); ", "A", "v"+num.Text(int64(i))), "B", "v"+num.Text(int64(i+1)))
	}
	for _, use := range []string{"v0", "v0 = v0", "fn x => v0", "let val y = v0 in y end", "(v0, v1) = (v1, v0)"} {
		if _, _, e := types.New().Add(read(t, "fun f "+names+" = ("+chain+use+")")); e != api.ErrType {
			t.Error(use, e)
		}
	}
	// None of these types stands in that of a name, or of the whole.
	refused(t, "val _ = case ("+strings.Repeat("raise Match, ", 9)+"raise Match) of (a, b, c, d, e, f, g, h, i, j) => (a = (b, b); b = (c, c); c = (d, d); d = (e, e); e = (f, f); f = (g, g); g = (h, h); h = (i, i); i = (j, j); 1)", 0, api.ErrType)
	has(t, "val _ = case ("+strings.Repeat("raise Match, ", 5)+"raise Match) of (a, b, c, d, e, f) => (a = (b, b); b = (c, c); c = (d, d); d = (e, e); e = (f, f); 1)", "")
	y := types.New()
	add(t, y, "val v = "+wide(299))
	add(t, y, "val _ = if true then v else v")
	has(t, "fn a => let val b = (a, a) val c = (b, b) val d = (c, c) val e = (d, d) val f = (e, e) val g = (f, f) in 1 end", "it : 'a -> int")
	x := types.New()
	add(t, x, "datatype t = A of "+strings.TrimSuffix(strings.Repeat("int * ", 400), " * "))
	if _, _, e := x.Add(read(t, "A")); e != api.ErrType {
		t.Error("a maker of more parts", e)
	}
	add(t, x, "1")
}

func TestP9_2_Asked(t *testing.T) {
	x := types.New()
	if s, n := x.Stamps(); s != api.SFirst || n != api.XFirst || len(x.Values()) != 0 || !reflect.DeepEqual(x.Makers(), rts.Makers()) {
		t.Error(s, n)
	}
	add(t, x, "val x = 1; fun f y = y; val (x, z) = (\"a\", nil)")
	if b, ok := x.Find("x"); !ok || types.Text(b.Type) != "string" || b.Vars != 0 {
		t.Error(b, ok)
	}
	if b, ok := x.Find("f"); !ok || b.Vars != 1 || types.Text(b.Type) != "'a -> 'a" {
		t.Error(b, ok)
	}
	for _, n := range []string{"y", "", "it", "true", "Match", "int"} {
		if b, ok := x.Find(n); ok || !reflect.DeepEqual(b, api.Scheme{}) {
			t.Error(n, b)
		}
	}
	if got := told([][]api.Bind{x.Values()}); got != "x : int, f : 'a -> 'a, x : string, z : 'a list" {
		t.Error(got)
	}
	add(t, x, "datatype ('a, 'b) t = A | B of 'b * int; exception E; exception F of int; datatype u = U")
	if s, n := x.Stamps(); s != api.SFirst+2 || n != api.XFirst+2 {
		t.Error(s, n)
	}
	var got []string
	for _, k := range x.Makers()[len(rts.Makers()):] {
		s := k.Name + " " + types.Text(k.Type) + " " + string(rune('0'+k.Tag)) + string(rune('0'+k.Vars)) + string(rune('0'+k.Type.N-api.SExn))
		if k.Has {
			s += " of " + types.Text(k.Arg)
		}
		got = append(got, s)
	}
	if s := strings.Join(got, "; "); s != "A ('a, 'b) t 026; B ('a, 'b) t 126 of 'b * int; E exn 600; F exn 700 of int; U u 007" {
		t.Error(s)
	}
}

func TestP9_2_Schemes(t *testing.T) {
	x := types.New()
	add(t, x, "fun k x y = x; val (a, b) = (fn (p, q) => q, nil)")
	for name, vars := range map[string]int{"k": 2, "a": 2, "b": 1} {
		if b, _ := x.Find(name); b.Vars != vars {
			t.Error(name, b)
		}
	}
	b, _ := x.Find("k")
	want := api.Type{Kind: api.KCon, N: api.SArrow, Name: "->", L: []api.Type{{Kind: api.KVar}, {Kind: api.KCon, N: api.SArrow, Name: "->", L: []api.Type{{Kind: api.KVar, N: 1}, {Kind: api.KVar}}}}}
	if !reflect.DeepEqual(b.Type, want) {
		t.Errorf("%+v", b.Type)
	}
	add(t, x, "val all = (1, \"a\", (), Match, ref 1, true, 1 :: nil)")
	b, _ = x.Find("all")
	for i, stamp := range []int{api.SInt, api.SString, api.SUnit, api.SExn, api.SRef, api.SBool, api.SList} {
		if part := b.Type.L[i]; part.N != stamp || part.Kind != api.KCon {
			t.Error(part)
		}
	}
	if b.Type.N != api.STuple || b.Type.Name != "*" || b.Type.L[2].Name != "unit" || b.Type.L[4].Name != "ref" {
		t.Error(b)
	}
}

func TestP9_2_Copies(t *testing.T) {
	x := types.New()
	add(t, x, "val x = 1 :: nil; datatype 'a t = A of 'a list")
	was := state(x)
	l, _, _ := x.Copy().Add(read(t, "val y = x"))
	l[0][0].Scheme.Type.L[0].Name = "spoilt"
	b, _ := x.Find("x")
	b.Type.L[0].Name = "spoilt"
	x.Values()[0].Scheme.Type.L[0].Name = "spoilt"
	k := x.Makers()
	k[len(k)-1].Arg.L[0].N, k[len(k)-1].Type.L[0].N, k[3].Arg.L[0].N = 77, 77, 77
	c := x.Copy()
	add(t, c, "val z = 1; datatype u = U; exception E")
	if !reflect.DeepEqual(state(x), was) {
		t.Error("something has changed")
	}
	if _, ok := c.Find("z"); !ok {
		t.Error("the copy has it")
	}
	d := x.Copy()
	add(t, x, "val w = 2; val v = 3")
	add(t, d, "val q = 2; val r = 3")
	if got := told([][]api.Bind{d.Values(), x.Values()}); got != "x : int list, q : int, r : int; x : int list, w : int, v : int" {
		t.Error(got)
	}
}

func TestP9_2_Nil(t *testing.T) {
	var x *types.Env
	if _, ok := x.Find("x"); ok || len(x.Values()) != 0 || len(x.Makers()) != 0 || x.Copy() != nil {
		t.Error("nil")
	}
	if s, n := x.Stamps(); s != 0 || n != 0 {
		t.Error(s, n)
	}
	for _, s := range []string{"1", "fn x :: y => 1", "1 :: nil", "datatype t = A", "exception E"} {
		new(types.Env).Add(read(t, s)) // P1: it ends
	}
}

func TestP9_3_Text(t *testing.T) {
	v := func(n int) api.Type { return api.Type{Kind: api.KVar, N: n} }
	con := func(n int, name string, l ...api.Type) api.Type {
		return api.Type{Kind: api.KCon, N: n, Name: name, L: l}
	}
	i := con(api.SInt, "int")
	fn := func(a, b api.Type) api.Type { return con(api.SArrow, "->", a, b) }
	pair := func(l ...api.Type) api.Type { return con(api.STuple, "*", l...) }
	list := func(a api.Type) api.Type { return con(api.SList, "list", a) }
	for _, c := range []struct {
		t api.Type
		s string
	}{
		{v(0), "'a"}, {v(25), "'z"}, {v(26), "'a1"}, {v(52 + 27), "'b3"}, {v(-1), "'z"}, {v(-26), "'a"}, {i, "int"}, {list(i), "int list"}, {list(list(v(1))), "'b list list"}, {pair(i, i, v(0)), "int * int * 'a"}, {fn(i, i), "int -> int"},
		{fn(i, fn(i, i)), "int -> int -> int"}, {fn(fn(i, i), i), "(int -> int) -> int"}, {fn(pair(i, i), pair(i, i)), "int * int -> int * int"}, {pair(fn(i, i), i), "(int -> int) * int"}, {pair(pair(i, i), i), "(int * int) * int"}, {pair(i, pair(i, i)), "int * (int * int)"},
		{list(pair(i, i)), "(int * int) list"}, {list(fn(i, i)), "(int -> int) list"}, {con(10, "t", i, i), "(int, int) t"}, {con(10, "t", fn(i, i), pair(i, i), v(2)), "(int -> int, int * int, 'c) t"}, {list(con(10, "t", i, i)), "(int, int) t list"}, {fn(list(fn(i, i)), i), "(int -> int) list -> int"},
		{api.Type{}, "?"}, {api.Type{Kind: 3, N: 1, Name: "int"}, "?"}, {list(api.Type{Kind: -1}), "? list"}, {con(api.SArrow, "->", i), "int ->"}, {con(api.SArrow, "->", i, i, i), "(int, int, int) ->"}, {con(api.STuple, "*", i), "int *"}, {con(api.STuple, "*"), "*"}, {list(con(api.STuple, "*", i)), "int * list"}, {con(api.SArrow, "x", i, i), "int -> int"}, {con(0, ""), ""},
	} {
		if s := types.Text(c.t); s != c.s {
			t.Errorf("%s, not %s", s, c.s)
		}
	}
}

func TestP9_4_Order(t *testing.T) {
	for _, c := range [][2]string{
		{"val x = fn y => (y, 1)", "fun g z = z :: nil"}, {"datatype 'a t = A of 'a", "val x = \"a\""}, {"exception E of int", "fun f x = f x"}, {"datatype t = A", "exception B of int list"},
	} {
		a, b := types.New(), types.New()
		p := strings.Split(add(t, a, c[0]+";"+c[1]), "; ")
		q := strings.Split(add(t, b, c[1]+";"+c[0]), "; ")
		if p[0] != q[1] || p[1] != q[0] {
			t.Error(p, q)
		}
	}
}

func TestP9_5_Renamed(t *testing.T) {
	for _, s := range []string{"fun NAME x = fn y => if x = y then NAME x y else x", "val NAME = fn a => fn b => a b", "fn NAME => let val z = NAME in (z, NAME) end", "fn (a, NAME :: b) => (NAME, b, a)"} {
		var got []string
		for _, name := range []string{"f", "other'", "it"} {
			got = append(got, strings.ReplaceAll(add(t, types.New(), strings.ReplaceAll(s, "NAME", name)), name+" :", ":"))
		}
		if strings.TrimPrefix(got[0], "it ") != strings.TrimPrefix(got[1], "it ") || strings.TrimPrefix(got[0], "it ") != strings.TrimPrefix(got[2], "it ") {
			t.Error(got)
		}
	}
}

func TestP9_6_Used(t *testing.T) {
	x := types.New()
	add(t, x, "fun map f = fn nil => nil | x :: r => f x :: map f r; fun pair x y = (x, y)")
	for _, c := range [][2]string{
		{"map (fn n => n + 1)", "it : int list -> int list"}, {"map (fn s => size s) (\"a\" :: nil)", "it : int list"}, {"map (map (fn n => n + 1))", "it : int list list -> int list list"}, {"fn x => map (pair x)", "it : 'a -> 'b list -> ('a * 'b) list"}, {"(pair 1 \"a\", pair () (1 :: nil))", "it : (int * string) * (unit * int list)"},
	} {
		if got := add(t, x, c[0]); got != c[1] {
			t.Error(c[0], got)
		}
	}
}

func TestP9_7_Let(t *testing.T) {
	for _, v := range []string{"fn x => x", "nil", "(nil, fn x => (x, x))", "fn f => fn x => f (f x)"} {
		for _, use := range []string{"(V, V)", "fn z => (V, z)", "let val q = V in (q, q, V) end", "V :: V :: nil"} {
			a := add(t, types.New(), "fn () => let val v = "+v+" in "+strings.ReplaceAll(use, "V", "v")+" end")
			b := add(t, types.New(), "fn () => "+strings.ReplaceAll(use, "V", "("+v+")"))
			if a != b {
				t.Errorf("%s in %s: %s, not %s", v, use, a, b)
			}
		}
	}
}
