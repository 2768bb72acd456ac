package syntax_test

import (
	"fmt"
	"reflect"
	"strings"
	"testing"

	"kindling/api"
	"kindling/lex"
	"kindling/syntax"
)

// shown is declarations as a short text of their own: (kind name parts).
func shown(l []api.Decl) string {
	var out []string
	for _, d := range l {
		out = append(out, showDecl(d))
	}
	return strings.Join(out, " ")
}

func showDecl(d api.Decl) string {
	switch d.Kind {
	case api.DVal:
		return "(val " + showPat(d.Pat) + " " + showExpr(d.Expr) + ")"
	case api.DFun:
		s := "(fun"
		for _, f := range d.Funs {
			s += " (" + f.Name
			for _, p := range f.Pats {
				s += " " + showPat(p)
			}
			s += " " + showExpr(f.Body) + ")"
		}
		return s + ")"
	case api.DData:
		s := "(data [" + strings.Join(d.Data.Vars, " ") + "] " + d.Data.Name
		for _, c := range d.Data.Cons {
			s += " " + showCon(c)
		}
		return s + ")"
	case api.DExn:
		return "(exn " + showCon(d.Con) + ")"
	}
	return showExpr(d.Expr)
}

func showCon(c api.Con) string {
	s := c.Name
	for _, t := range c.Arg {
		s += ":" + showTy(t)
	}
	return s
}

func showExpr(e api.Expr) string {
	switch e.Kind {
	case api.EInt:
		return fmt.Sprint(e.Num)
	case api.EText:
		return fmt.Sprintf("%q", e.Name)
	case api.EVar, api.ECon:
		return e.Name
	}
	s := "(" + map[int]string{5: "tuple", 6: "app", 7: "fn", 8: "if", 9: "case", 10: "let", 11: "raise", 12: "handle", 13: "seq", 14: e.Name, 15: "u" + e.Name}[e.Kind]
	for _, d := range e.Decls {
		s += " " + showDecl(d)
	}
	behind := len(e.L) - len(e.Pats)
	for i, part := range e.L {
		if len(e.Pats) > 0 && i >= behind {
			s += " " + showPat(e.Pats[i-behind]) + "=>"
		}
		s += " " + showExpr(part)
	}
	return s + ")"
}

func showPat(p api.Pat) string {
	switch p.Kind {
	case api.PWild:
		return "_"
	case api.PInt:
		return fmt.Sprint(p.Num)
	case api.PText:
		return fmt.Sprintf("%q", p.Name)
	case api.PVar:
		return p.Name
	}
	s := "<" + p.Name
	for _, part := range p.L {
		s += " " + showPat(part)
	}
	return s + ">"
}

func showTy(t api.Ty) string {
	switch t.Kind {
	case api.YVar:
		return t.Name
	case api.YCon:
		if len(t.L) == 0 {
			return t.Name
		}
	}
	s := "{" + t.Name + map[int]string{3: "->", 4: "*"}[t.Kind]
	for _, part := range t.L {
		s += " " + showTy(part)
	}
	return s + "}"
}

func TestP8_1_Read(t *testing.T) {
	for _, c := range [][2]string{
		{"val x = 1 - 2 - 3;", "(val x (- (- 1 2) 3))"}, {"", ""}, {"1 ; 2; 3", "1 2 3"}, {"1 val x = 2 x", "1 (val x (app 2 x))"},
		{"fn 0 => 1 | n => n", "(fn 0=> 1 n=> n)"}, {"()", "(tuple)"}, {"(1)", "1"}, {"((1, 2))", "(tuple 1 2)"}, {"(1; 2; 3)", "(seq 1 2 3)"},
		{"case xs of nil => 0 | x :: r => 1 + f r", "(case xs <nil>=> 0 <:: < x r>>=> (+ 1 (app f r)))"},
		{"f x y z", "(app (app (app f x) y) z)"}, {"f ~x", "f (u~ x)"}, {"~ f x", "(u~ (app f x))"}, {"not ! ref size str ord itos x", "(unot (u! (uref (usize (ustr (uord (uitos x)))))))"},
		{"a orelse b andalso c orelse d", "(orelse (orelse a (andalso b c)) d)"}, {"a := b := c", "(:= a (:= b c))"}, {"a = b := c < d", "(:= (= a b) (< c d))"},
		{"a andalso b := c", "(andalso a (:= b c))"}, {"a := b orelse c", "(orelse (:= a b) c)"},
		{"a = b <> c < d <= e > f >= g", "(>= (> (<= (< (<> (= a b) c) d) e) f) g)"}, {"a :: b :: c = d", "(= (:: a (:: b c)) d)"}, {"a + b :: c - d ^ e", "(:: (+ a b) (^ (- c d) e))"},
		{"a + b * c div d mod e - f", "(- (+ a (mod (div (* b c) d) e)) f)"}, {"~a * b", "(* (u~ a) b)"}, {"a * ~b + c", "(+ (* a (u~ b)) c)"}, {"a = ~b = c", "(= (= a (u~ b)) c)"},
		{"if a then b else c handle A => d", "(if a b (handle c <A>=> d))"}, {"raise a handle A => b | B x => c handle C => d", "(raise (handle a <A>=> b <B x>=> (handle c <C>=> d)))"},
		{"fn x => case x of 1 => 2 | 3 => fn y => y | z => z", "(fn x=> (case x 1=> 2 3=> (fn y=> y z=> z)))"}, {"x fn y => y", "x (fn y=> y)"},
		{"let in 1 end", "(let 1)"}, {"let val x = 1 fun f x = x val y = 2; in x; y end z", "(app (let (val x 1) (fun (f x x)) (val y 2) (seq x y)) z)"}, {"let val x = 1; in (a; b) end", "(let (val x 1) (seq a b))"},
		{"fun f x (y, _) ~1 A (B z) () \"s\" = 1 and g (a :: b :: c) = 2", "(fun (f x < y _> -1 <A> <B z> <> \"s\" 1) (g <:: < a <:: < b c>>>> 2))"},
		{"val A B = 1", "(val <A <B>> 1)"}, {"val A x :: B = 1", "(val <:: < <A x> <B>>> 1)"}, {"val (A (x :: y), (z)) = 1", "(val < <A <:: < x y>>> z> 1)"}, {"val ~ 0 = 1", "(val 0 1)"}, {"val nil = true", "(val <nil> true)"},
		{"datatype t = A | B of int * 'a list ref -> unit -> (int -> t) | C", "(data [] t A B:{-> {* int {ref {list 'a}}} {-> unit {-> int t}}} C)"},
		{"datatype 'a t = A of ('a, int * int, 'b -> c) d e", "(data ['a] t A:{e {d 'a {* int int} {-> 'b c}}})"}, {"datatype ('a) t = A datatype ('a, 'b) u = B", "(data ['a] t A) (data ['a 'b] u B)"},
		{"datatype t = true | nil of ref", "(data [] t true nil:ref)"}, {"exception A of (int) exception B 5", "(exn A:int) (exn B) 5"}, {"exception A of int x 5", "(exn A:{x int}) 5"}, {"exception A of int ref ref", "(exn A:{ref {ref int}})"},
		{"exception A of (int * int) * int", "(exn A:{* {* int int} int})"}, {"exception A of (int -> int) -> int", "(exn A:{-> {-> int int} int})"},
	} {
		l, at, e := syntax.Parse(c[0])
		if e != api.OK || at != 0 || shown(l) != c[1] {
			t.Errorf("%s: %s, not %s (%d at %d)", c[0], shown(l), c[1], e, at)
		}
	}
}

func TestP8_1_Wrong(t *testing.T) {
	for _, c := range []struct {
		s  string
		at int
	}{
		{"val = 3", 4}, {"(1,", 3}, {"(1,)", 3}, {";", 0}, {"1;;", 2}, {"val x", 5}, {"val x = ", 8}, {"val x = val", 8}, {"fun = 1", 4}, {"fun f = 1", 6}, {"fun f x", 7}, {"fun f x = 1 and", 15}, {"fun A x = 1", 4},
		{"1 +", 3}, {"1 + if a then b else c", 4}, {"1 + + 2", 4}, {"if a then b", 11}, {"if a else", 5}, {"case a b", 8}, {"case a of", 9}, {"case a of x", 11}, {"case a of x =", 12}, {"fn x", 4}, {"fn x y => 1", 5}, {"fn x => 1 |", 11},
		{"raise", 5}, {"a handle", 8}, {"(a", 2}, {"(a; b, c)", 5}, {"(a, b; c)", 5}, {"(a b", 4}, {"(a ~b)", 3}, {"(val x = 1)", 1}, {")", 0}, {"a )", 2}, {"let x", 4}, {"let val x = 1", 13}, {"let val x = 1;; in x end", 14}, {"let in end", 7}, {"let in a; end", 10}, {"let in a b", 10}, {"let datatype t = A in 1 end", 4},
		{"val A B C = 1", 8}, {"val x y = 1", 6}, {"val ~ x = 1", 6}, {"val ~ ~ 1 = 1", 6}, {"val (x = 1", 7}, {"val (x; y) = 1", 6}, {"val x :: = 1", 9}, {"fun f x :: y = 1", 8}, {"fun f (x :: y = 1", 14}, {"val + = 1", 4}, {"val f (x) = 1", 6},
		{"datatype = A", 9}, {"datatype t A", 11}, {"datatype t = a", 13}, {"datatype t =", 12}, {"datatype t = A |", 16}, {"datatype t = A of", 17}, {"datatype t = A of A", 18}, {"datatype ('a t = A", 13}, {"datatype () t = A", 10}, {"datatype ('a,) t = A", 13}, {"datatype ref = A", 9}, {"datatype 'a 'b t = A", 12}, {"datatype 'a = A", 12},
		{"exception a", 10}, {"exception A of (int, int)", 25}, {"exception A of (int, int) 5", 26}, {"exception A of ()", 16}, {"exception A of int *", 20}, {"exception A of int -> ->", 22}, {"exception A of (int", 19}, {"exception A of (int,", 20}, {"exception A of int list A", 0 - 1}, {"x = y =", 7}, {"x :: ", 5}, {"not", 3}, {"| x", 0}, {"x | y", 2}, {"x => y", 2}, {"_", 0}, {"x _", 2}, {"'a", 0}, {"end", 0}, {"x handle A => b | ", 18},
	} {
		l, at, e := syntax.Parse(c.s)
		if c.at < 0 { // it is no error
			if e != api.OK {
				t.Errorf("%s: %d at %d", c.s, e, at)
			}
			continue
		}
		if len(l) != 0 || at != c.at || e != api.ErrSyntax {
			t.Errorf("%s: %d at %d, not %d", c.s, e, at, c.at)
		}
	}
	for _, c := range []struct {
		s  string
		at int
		e  api.Errno
	}{{"1 + #", 4, api.ErrToken}, {strings.Repeat(" ", 5000), 0, api.ErrLong}, {strings.Repeat("x ", 1001), 2000, api.ErrLong}, {"val = 3 #", 8, api.ErrToken}} {
		if l, at, e := syntax.Parse(c.s); len(l) != 0 || at != c.at || e != c.e {
			t.Errorf("%.40s: %d at %d", c.s, e, at)
		}
	}
}

func TestP8_1_Tokens(t *testing.T) {
	one, semi, end := api.Token{Kind: api.TInt, Num: 1, At: 50}, api.Token{Kind: api.TSign, Text: ";", At: 60}, api.Token{Kind: api.TEnd, At: 70}
	plus := api.Token{Kind: api.TSign, Text: "+", At: 55}
	for _, c := range []struct {
		l    []api.Token
		want string
		at   int
		e    api.Errno
	}{
		{nil, "", 0, api.OK}, {[]api.Token{one}, "1", 0, api.OK}, {[]api.Token{one, end, plus, plus}, "1", 0, api.OK}, {[]api.Token{one, plus}, "", 0, api.ErrSyntax}, {[]api.Token{one, plus, end}, "", 70, api.ErrSyntax},
		{[]api.Token{one, semi, semi}, "", 60, api.ErrSyntax}, {[]api.Token{one, end, {Kind: 9}}, "", 0, api.ErrForm}, {[]api.Token{plus, {Kind: api.TName, Text: "val"}}, "", 0, api.ErrForm},
		{[]api.Token{{Kind: api.TText, Text: "+"}, {Kind: api.TText, Text: ")"}}, "(app \"+\" \")\")", 0, api.OK}, {[]api.Token{{Kind: api.TText, Text: "("}}, "\"(\"", 0, api.OK},
	} {
		if l, at, e := syntax.Read(c.l); shown(l) != c.want || at != c.at || e != c.e {
			t.Errorf("%v: %s %d %d", c.l, shown(l), at, e)
		}
	}
}

func TestP8_1_Deep(t *testing.T) {
	brackets := func(n int) string { return strings.Repeat("(", n) + "1" + strings.Repeat(")", n) }
	nots := func(n int) string { return strings.Repeat("~", n) + "1" }
	for _, c := range []struct {
		s string
		e api.Errno
	}{
		{brackets(400), api.OK}, {nots(98), api.OK}, {nots(99), api.ErrDeep}, {"1 ; " + nots(99), api.ErrDeep}, {nots(99) + ")", api.ErrSyntax}, {strings.Repeat("1 :: ", 98) + "nil", api.OK}, {strings.Repeat("1 :: ", 99) + "nil", api.ErrDeep},
		{"val " + strings.Repeat("(A ", 97) + "x" + strings.Repeat(")", 97) + " = 1", api.OK}, {"val " + strings.Repeat("(A ", 99) + "x" + strings.Repeat(")", 99) + " = 1", api.ErrDeep},
		{"exception A of int" + strings.Repeat(" ref", 98), api.OK}, {"exception A of int" + strings.Repeat(" ref", 99), api.ErrDeep}, {"datatype t = B | A of int" + strings.Repeat(" ref", 99), api.ErrDeep},
		{"fun f " + strings.Repeat("(A ", 99) + "x" + strings.Repeat(")", 99) + " = 1", api.ErrDeep}, {"fun g x = 1 and f x = " + nots(99), api.ErrDeep}, {"fn " + strings.Repeat("(A ", 98) + "x" + strings.Repeat(")", 98) + " => 1", api.ErrDeep},
	} {
		if _, at, e := syntax.Parse(c.s); e != c.e || e == api.ErrDeep && at != 0 {
			t.Errorf("%.60s: %d at %d", c.s, e, at)
		}
	}
}

// deep is a long row of brackets, as tokens.
func deep(n int) []api.Token {
	var l []api.Token
	for range n {
		l = append(l, api.Token{Kind: api.TSign, Text: "("})
	}
	return l
}

func TestP1_DeepTokens(t *testing.T) {
	if _, at, e := syntax.Read(append(deep(60000), api.Token{Kind: api.TEnd, At: 7})); e != api.ErrSyntax || at != 7 {
		t.Error(e, at)
	}
}

func TestP8_2_Deep(t *testing.T) {
	for _, c := range []struct {
		s string
		n int
	}{{"", 0}, {"1", 2}, {"val x = 1", 2}, {"val (x, A y) = 1", 4}, {"1 + 2", 3}, {"fn x => 1", 3}, {"fn (x, y) => 1", 4}, {"let val x = 1 + 2 in 3 end", 5}, {"datatype t = A", 1}, {"exception A", 1}, {"exception A of int list", 3}, {"datatype t = A | B of int -> int list", 4}, {"fun f x = 1 and g (x, y) = 2", 3}, {"1; 1 + 2", 3}, {"case x of A (B y) => 1", 5}} {
		l, _, e := syntax.Parse(c.s)
		if n := syntax.Deep(l); e != api.OK || n != c.n {
			t.Errorf("%s: %d, not %d", c.s, n, c.n)
		}
	}
	odd := []api.Decl{{}, {Kind: 77, Expr: api.Expr{L: make([]api.Expr, 1)}}}
	if n := syntax.Deep(odd); n != 1 {
		t.Error(n)
	}
	odd = append(odd, api.Decl{Kind: api.DExpr, Expr: api.Expr{Kind: api.EInt, L: []api.Expr{{Kind: 99, Pats: []api.Pat{{Kind: 50, L: make([]api.Pat, 2)}}}}}})
	if n := syntax.Deep(odd); n != 5 {
		t.Error(n)
	}
	if n := syntax.Deep([]api.Decl{{Kind: api.DVal, Pat: api.Pat{L: make([]api.Pat, 3)}, Funs: make([]api.Fun, 1)}, {Kind: api.DExn, Expr: api.Expr{L: make([]api.Expr, 3)}}}); n != 3 {
		t.Error(n)
	}
}

func evar(s string) api.Expr { return api.Expr{Kind: api.EVar, Name: s} }
func pvar(s string) api.Pat  { return api.Pat{Kind: api.PVar, Name: s} }

// wrongExprs are expressions that Read can't tell.
func wrongExprs() []api.Expr {
	x, p := evar("x"), pvar("x")
	dval := api.Decl{Kind: api.DVal, Pat: p, Expr: x}
	return []api.Expr{
		{}, {Kind: 16}, {Kind: -1}, {Kind: api.EInt, Num: -1}, {Kind: api.EInt, Num: api.MaxInt + 1}, {Kind: api.EInt, Name: "a"}, {Kind: api.EInt, L: []api.Expr{x}}, {Kind: api.EInt, Pats: []api.Pat{p}}, {Kind: api.EInt, Decls: []api.Decl{dval}},
		{Kind: api.EText, Num: 1}, {Kind: api.EText, L: []api.Expr{x}}, evar(""), evar("val"), evar("X"), evar("true"), evar("x y"), {Kind: api.EVar, Name: "x", Num: 1}, {Kind: api.EVar, Name: "x", L: []api.Expr{x}},
		{Kind: api.ECon, Name: "x"}, {Kind: api.ECon, Name: ""}, {Kind: api.ECon, Name: "::"}, {Kind: api.ETuple, L: []api.Expr{x}}, {Kind: api.ETuple, Name: "x"}, {Kind: api.ETuple, L: []api.Expr{x, {}}}, {Kind: api.EApp, L: []api.Expr{x}}, {Kind: api.EApp, L: []api.Expr{x, x, x}}, {Kind: api.EApp, Name: "x", L: []api.Expr{x, x}},
		{Kind: api.EFn}, {Kind: api.EFn, L: []api.Expr{x}}, {Kind: api.EFn, Pats: []api.Pat{p}}, {Kind: api.EFn, L: []api.Expr{x, x}, Pats: []api.Pat{p}}, {Kind: api.EFn, Name: "x", L: []api.Expr{x}, Pats: []api.Pat{p}}, {Kind: api.EFn, L: []api.Expr{x}, Pats: []api.Pat{{}}},
		{Kind: api.EIf, L: []api.Expr{x, x}}, {Kind: api.EIf, L: []api.Expr{x, x, x, x}}, {Kind: api.EIf, L: []api.Expr{x, x, x}, Pats: []api.Pat{p}}, {Kind: api.ECase, L: []api.Expr{x}}, {Kind: api.ECase, L: []api.Expr{x}, Pats: []api.Pat{p}}, {Kind: api.EHandle, L: []api.Expr{x, x, x}, Pats: []api.Pat{p}}, {Kind: api.EHandle, Name: "a", L: []api.Expr{x, x}, Pats: []api.Pat{p}},
		{Kind: api.ELet}, {Kind: api.ELet, L: []api.Expr{x, x}}, {Kind: api.ELet, L: []api.Expr{x}, Decls: []api.Decl{{Kind: api.DExpr, Expr: x}}}, {Kind: api.ELet, L: []api.Expr{x}, Decls: []api.Decl{{Kind: api.DExn, Con: api.Con{Name: "A"}}}}, {Kind: api.ELet, L: []api.Expr{x}, Decls: []api.Decl{{Kind: api.DVal, Pat: p}}},
		{Kind: api.ERaise}, {Kind: api.ERaise, L: []api.Expr{x, x}}, {Kind: api.ESeq, L: []api.Expr{x}}, {Kind: api.ESeq}, {Kind: api.EBin, Name: "+", L: []api.Expr{x}}, {Kind: api.EBin, Name: "not", L: []api.Expr{x, x}}, {Kind: api.EBin, L: []api.Expr{x, x}}, {Kind: api.EBin, Name: "=>", L: []api.Expr{x, x}}, {Kind: api.EBin, Name: "+", Num: 1, L: []api.Expr{x, x}},
		{Kind: api.EUn, Name: "+", L: []api.Expr{x}}, {Kind: api.EUn, Name: "~", L: []api.Expr{x, x}}, {Kind: api.EUn, Name: "~"}, {Kind: api.EUn, L: []api.Expr{x}}, {Kind: api.EUn, Name: "raise", L: []api.Expr{x}}, {Kind: api.EUn, Name: "~", L: []api.Expr{{}}},
	}
}

// wrongPats are patterns that Read can't tell.
func wrongPats() []api.Pat {
	p := pvar("x")
	pair := api.Pat{Kind: api.PTuple, L: []api.Pat{p, p}}
	return []api.Pat{
		{}, {Kind: 7}, {Kind: api.PWild, Name: "x"}, {Kind: api.PWild, Num: 1}, {Kind: api.PWild, L: []api.Pat{p}}, pvar(""), pvar("X"), pvar("_"), {Kind: api.PVar, Name: "x", Num: 2}, {Kind: api.PVar, Name: "x", L: []api.Pat{p}},
		{Kind: api.PInt, Num: api.MinInt}, {Kind: api.PInt, Num: api.MaxInt + 1}, {Kind: api.PInt, Name: "x"}, {Kind: api.PInt, L: []api.Pat{p}}, {Kind: api.PText, Num: 1}, {Kind: api.PText, L: []api.Pat{p}},
		{Kind: api.PTuple, L: []api.Pat{p}}, {Kind: api.PTuple, Name: "x"}, {Kind: api.PTuple, L: []api.Pat{p, {}}}, {Kind: api.PCon}, {Kind: api.PCon, Name: "x"}, {Kind: api.PCon, Name: "A", L: []api.Pat{p, p}}, {Kind: api.PCon, Name: "A", Num: 1}, {Kind: api.PCon, Name: "A", L: []api.Pat{{}}},
		{Kind: api.PCon, Name: "::"}, {Kind: api.PCon, Name: "::", L: []api.Pat{p}}, {Kind: api.PCon, Name: "::", L: []api.Pat{{Kind: api.PTuple}}}, {Kind: api.PCon, Name: "::", L: []api.Pat{pair, pair}}, {Kind: api.PCon, Name: "::", L: []api.Pat{{Kind: api.PTuple, L: []api.Pat{p, p, p}}}}, {Kind: api.PCon, Name: "::", L: []api.Pat{{Kind: api.PTuple, L: []api.Pat{p, {}}}}},
	}
}

// wrongTys are types that Read can't tell.
func wrongTys() []api.Ty {
	i := api.Ty{Kind: api.YCon, Name: "int"}
	return []api.Ty{
		{}, {Kind: 5}, {Kind: api.YVar}, {Kind: api.YVar, Name: "a"}, {Kind: api.YVar, Name: "'a", L: []api.Ty{i}}, {Kind: api.YCon}, {Kind: api.YCon, Name: "Int"}, {Kind: api.YCon, Name: "val"}, {Kind: api.YCon, Name: "->", L: []api.Ty{i, i}}, {Kind: api.YCon, Name: "list", L: []api.Ty{{}}},
		{Kind: api.YArrow, L: []api.Ty{i}}, {Kind: api.YArrow, L: []api.Ty{i, i, i}}, {Kind: api.YArrow, Name: "->", L: []api.Ty{i, i}}, {Kind: api.YTuple, L: []api.Ty{i}}, {Kind: api.YTuple}, {Kind: api.YTuple, Name: "*", L: []api.Ty{i, i}}, {Kind: api.YTuple, L: []api.Ty{i, {}}},
	}
}

// wrongDecls are declarations that Read can't tell.
func wrongDecls() []api.Decl {
	x, p := evar("x"), pvar("x")
	f, c := api.Fun{Name: "f", Pats: []api.Pat{p}, Body: x}, api.Con{Name: "A"}
	data := api.Data{Name: "t", Cons: []api.Con{c}}
	l := []api.Decl{
		{}, {Kind: 6, Expr: x}, {Kind: api.DVal, Pat: p}, {Kind: api.DVal, Expr: x}, {Kind: api.DVal, Pat: p, Expr: x, Funs: []api.Fun{f}}, {Kind: api.DVal, Pat: p, Expr: x, Data: data}, {Kind: api.DVal, Pat: p, Expr: x, Con: c}, {Kind: api.DFun}, {Kind: api.DFun, Funs: []api.Fun{f}, Expr: x}, {Kind: api.DFun, Funs: []api.Fun{f}, Pat: p},
		{Kind: api.DFun, Funs: []api.Fun{f, {Name: "g", Body: x}}}, {Kind: api.DFun, Funs: []api.Fun{{Name: "G", Pats: []api.Pat{p}, Body: x}}}, {Kind: api.DFun, Funs: []api.Fun{{Name: "g", Pats: []api.Pat{p}}}}, {Kind: api.DFun, Funs: []api.Fun{{Name: "g", Pats: []api.Pat{{}}, Body: x}}},
		{Kind: api.DData}, {Kind: api.DData, Data: api.Data{Name: "t"}}, {Kind: api.DData, Data: api.Data{Name: "T", Cons: []api.Con{c}}}, {Kind: api.DData, Data: api.Data{Name: "ref", Cons: []api.Con{c}}}, {Kind: api.DData, Data: api.Data{Vars: []string{"a"}, Name: "t", Cons: []api.Con{c}}}, {Kind: api.DData, Data: data, Con: c}, {Kind: api.DData, Data: api.Data{Name: "t", Cons: []api.Con{{Name: "a"}}}}, {Kind: api.DData, Data: api.Data{Name: "t", Cons: []api.Con{{Name: "A", Arg: make([]api.Ty, 1)}}}},
		{Kind: api.DExn}, {Kind: api.DExn, Con: api.Con{Name: "a"}}, {Kind: api.DExn, Con: c, Data: data}, {Kind: api.DExn, Con: api.Con{Name: "A", Arg: []api.Ty{{Kind: api.YVar, Name: "'a"}, {Kind: api.YVar, Name: "'a"}}}}, {Kind: api.DExpr}, {Kind: api.DExpr, Expr: x, Pat: p}, {Kind: api.DExpr, Expr: x, Pat: api.Pat{Name: "x"}}, {Kind: api.DExpr, Expr: x, Con: api.Con{Arg: make([]api.Ty, 1)}}, {Kind: api.DExpr, Expr: x, Data: api.Data{Vars: []string{""}}},
		{Kind: api.DFun, Funs: []api.Fun{f}, Expr: api.Expr{Num: 1}}, {Kind: api.DFun, Funs: []api.Fun{f}, Expr: api.Expr{Name: "x"}}, {Kind: api.DFun, Funs: []api.Fun{f}, Expr: api.Expr{L: []api.Expr{x}}}, {Kind: api.DFun, Funs: []api.Fun{f}, Expr: api.Expr{Pats: []api.Pat{p}}}, {Kind: api.DFun, Funs: []api.Fun{f}, Pat: api.Pat{Num: 1}}, {Kind: api.DFun, Funs: []api.Fun{f}, Pat: api.Pat{L: []api.Pat{p}}}, {Kind: api.DFun, Funs: []api.Fun{f}, Data: api.Data{Cons: []api.Con{c}}},
	}
	for _, e := range wrongExprs() {
		l = append(l, api.Decl{Kind: api.DExpr, Expr: e}, api.Decl{Kind: api.DExpr, Expr: api.Expr{Kind: api.ETuple, L: []api.Expr{x, e}}})
	}
	for _, q := range wrongPats() {
		l = append(l, api.Decl{Kind: api.DVal, Pat: q, Expr: x}, api.Decl{Kind: api.DExpr, Expr: api.Expr{Kind: api.EFn, Pats: []api.Pat{p, q}, L: []api.Expr{x, x}}})
	}
	for _, y := range wrongTys() {
		l = append(l, api.Decl{Kind: api.DExn, Con: api.Con{Name: "A", Arg: []api.Ty{y}}})
	}
	return l
}

func TestP8_2_Right(t *testing.T) {
	for _, d := range wrongDecls() {
		if syntax.Right([]api.Decl{d}) {
			t.Errorf("%+v", d)
		}
		if s, e := syntax.Print([]api.Decl{{Kind: api.DExpr, Expr: evar("x")}, d}); s != "" || e != api.ErrForm {
			t.Errorf("%q %d", s, e)
		}
	}
	if !syntax.Right(nil) {
		t.Error("none")
	}
	e := evar("x")
	for range 5000 { // however deep
		e = api.Expr{Kind: api.EUn, Name: "~", L: []api.Expr{e}}
	}
	if !syntax.Right([]api.Decl{{Kind: api.DExpr, Expr: e}}) {
		t.Error("deep")
	}
	for _, n := range []int64{-api.MaxInt, 0, api.MaxInt} {
		if !syntax.Right([]api.Decl{{Kind: api.DVal, Pat: api.Pat{Kind: api.PInt, Num: n}, Expr: api.Expr{Kind: api.EInt, Num: max(n, -n)}}}) {
			t.Error("numbers")
		}
	}
}

func TestP8_3_Print(t *testing.T) {
	for _, c := range [][2]string{
		{"", ""}, {"val x = 1 - 2 - 3;", "val x = ( 1 - 2 ) - 3 ;"}, {"f x y; 1", "( f x ) y ; 1 ;"}, {"val (x, A y) :: _ = ~ 1", "val ( x , ( A y ) ) :: _ = ~ 1 ;"}, {"val A (B x) = 1", "val A ( B x ) = 1 ;"}, {"val A ~1 = 1", "val A ~ 1 = 1 ;"},
		{"fun f x (A y) A (z :: r) = x + 1 and g 1 = if a = b then (c; d + 1) else e", "fun f x ( A y ) A ( z :: r ) = x + 1 and g 1 = if ( a = b ) then ( c ; ( d + 1 ) ) else e ;"},
		{"let val x = 1 + 2 fun f x = f x in x; y + 1 end + 1", "let val x = 1 + 2 ; fun f x = f x ; in x ; ( y + 1 ) end + 1 ;"}, {"let in f x end", "let in ( f x ) end ;"}, {"let in (1, f 2, ()) end", "let in ( 1 , ( f 2 ) , ( ) ) end ;"},
		{"case f x of 1 => f x | A y => (raise B) handle C => d | x :: y => z", "case ( f x ) of 1 => ( f x ) | ( A y ) => ( ( raise B ) handle C => d | ( x :: y ) => z ) ;"}, {"fn x => fn y => x", "fn x => ( fn y => x ) ;"},
		{"datatype 'a t = A of 'a | B of int list -> ('a, int list) u * int | C", "datatype 'a t = A of 'a | B of ( int list ) -> ( ( ( 'a , ( int list ) ) u ) * int ) | C ;"}, {"datatype ('a, 'b) t = A of int ref ref", "datatype ( 'a , 'b ) t = A of ( int ref ) ref ;"},
		{"exception A of int * int; \"a\\n\"", "exception A of int * int ; \"a\\n\" ;"}, {"a andalso not b orelse c div d", "( a andalso ( not b ) ) orelse ( c div d ) ;"}, {"exception A of (int -> int) list", "exception A of ( int -> int ) list ;"},
	} {
		l, _, e := syntax.Parse(c[0])
		if e != api.OK {
			t.Fatal(c[0], e)
		}
		if s, e := syntax.Print(l); s != c[1] || e != api.OK {
			t.Errorf("%s\n is %s\nnot %s", c[0], s, c[1])
		}
	}
}

// maker makes declarations by chance that is the same each time.
type maker struct{ x uint64 }

func (m *maker) n(n int) int {
	m.x = m.x*6364136223846793005 + 1442695040888963407
	return int(m.x>>33) % n
}

func (m *maker) of(words string) string {
	l := strings.Fields(words)
	return l[m.n(len(l))]
}

func (m *maker) exprs(deep, n int) []api.Expr {
	var l []api.Expr
	for range n {
		l = append(l, m.expr(deep))
	}
	return l
}

func (m *maker) pats(deep, n int) []api.Pat {
	var l []api.Pat
	for range n {
		l = append(l, m.pat(deep))
	}
	return l
}

func (m *maker) expr(deep int) api.Expr {
	kind := 1 + m.n(4)
	if deep > 0 {
		kind = 1 + m.n(15)
	}
	e := api.Expr{Kind: kind}
	arms := 1 + m.n(3)
	deep--
	switch kind {
	case api.EInt:
		e.Num = []int64{0, 5, api.MaxInt}[m.n(3)]
	case api.EText:
		e.Name = []string{"", "a\n", "\x00\xff\"", "(*"}[m.n(4)]
	case api.EVar:
		e.Name = m.of("x y z' f_1")
	case api.ECon:
		e.Name = m.of("A B true false nil")
	case api.ETuple:
		e.L = m.exprs(deep, []int{0, 2, 3}[m.n(3)])
	case api.EApp:
		e.L = m.exprs(deep, 2)
	case api.EFn:
		e.Pats, e.L = m.pats(deep, arms), m.exprs(deep, arms)
	case api.EIf:
		e.L = m.exprs(deep, 3)
	case api.ECase, api.EHandle:
		e.Pats, e.L = m.pats(deep, arms), m.exprs(deep, arms+1)
	case api.ELet:
		for range m.n(3) {
			e.Decls = append(e.Decls, m.decl(deep, 2))
		}
		e.L = m.exprs(deep, 1)
	case api.ERaise:
		e.L = m.exprs(deep, 1)
	case api.ESeq:
		e.L = m.exprs(deep, 2+m.n(2))
	case api.EBin:
		e.Name, e.L = m.of("+ - * div mod ^ :: := = <> < <= > >= andalso orelse"), m.exprs(deep, 2)
	case api.EUn:
		e.Name, e.L = m.of("~ ! not ref size str ord itos"), m.exprs(deep, 1)
	}
	return e
}

func (m *maker) pat(deep int) api.Pat {
	switch k := m.n(8); {
	case k == 0:
		return api.Pat{Kind: api.PWild}
	case k == 1:
		return api.Pat{Kind: api.PInt, Num: int64(m.n(9)) - 4}
	case k == 2:
		return api.Pat{Kind: api.PText, Name: "a\t"}
	case k == 3 && deep > 0:
		return api.Pat{Kind: api.PTuple, L: m.pats(deep-1, []int{0, 2, 3}[m.n(3)])}
	case k == 4 && deep > 0:
		return api.Pat{Kind: api.PCon, Name: m.of("A B"), L: m.pats(deep-1, m.n(2))}
	case k == 5 && deep > 0:
		return api.Pat{Kind: api.PCon, Name: "::", L: []api.Pat{{Kind: api.PTuple, L: m.pats(deep-1, 2)}}}
	case k == 6:
		return api.Pat{Kind: api.PCon, Name: m.of("A nil true")}
	}
	return pvar(m.of("x y z"))
}

func (m *maker) ty(deep int) api.Ty {
	k := m.n(5)
	if deep == 0 {
		k = m.n(2)
	}
	t := api.Ty{}
	n := 0
	switch k {
	case 0:
		return api.Ty{Kind: api.YVar, Name: m.of("'a 'b_1")}
	case 1:
		return api.Ty{Kind: api.YCon, Name: m.of("int ref t'")}
	case 2:
		t, n = api.Ty{Kind: api.YArrow}, 2
	case 3:
		t, n = api.Ty{Kind: api.YTuple}, 2+m.n(2)
	case 4:
		t, n = api.Ty{Kind: api.YCon, Name: m.of("list ref u")}, 1+m.n(3)
	}
	for range n {
		t.L = append(t.L, m.ty(deep-1))
	}
	return t
}

func (m *maker) con() api.Con {
	c := api.Con{Name: m.of("A B true")}
	if m.n(3) > 0 {
		c.Arg = []api.Ty{m.ty(2)}
	}
	return c
}

func (m *maker) decl(deep, kinds int) api.Decl {
	switch m.n(kinds) {
	case 0:
		return api.Decl{Kind: api.DVal, Pat: m.pat(deep), Expr: m.expr(deep)}
	case 1:
		d := api.Decl{Kind: api.DFun}
		for range 1 + m.n(2) {
			d.Funs = append(d.Funs, api.Fun{Name: m.of("f g"), Pats: m.pats(deep, 1+m.n(3)), Body: m.expr(deep)})
		}
		return d
	case 2:
		d := api.Data{Name: m.of("t u")}
		for range m.n(3) {
			d.Vars = append(d.Vars, m.of("'a 'b"))
		}
		for range 1 + m.n(3) {
			d.Cons = append(d.Cons, m.con())
		}
		return api.Decl{Kind: api.DData, Data: d}
	case 3:
		return api.Decl{Kind: api.DExn, Con: m.con()}
	}
	return api.Decl{Kind: api.DExpr, Expr: m.expr(deep)}
}

func TestP8_4_P8_5_PrintedIsRead(t *testing.T) {
	read := 0
	for seed := range uint64(3000) {
		m := &maker{seed*7919 + 1}
		l := []api.Decl{m.decl(3, 5), m.decl(2, 5)}
		if !syntax.Right(l) {
			t.Fatalf("%+v", l)
		}
		s, e := syntax.Print(l)
		if e != api.OK {
			t.Fatal(e)
		}
		got, at, e := syntax.Parse(s)
		if e == api.ErrLong {
			continue
		}
		read++
		if e != api.OK || !reflect.DeepEqual(got, l) {
			t.Fatalf("%s\n%s\n%s\n%d at %d", s, shown(l), shown(got), e, at)
		}
		if again, _ := syntax.Print(got); again != s {
			t.Fatal(again)
		}
	}
	if read < 1000 {
		t.Error("too few were read", read)
	}
}

func TestP8_6_Brackets(t *testing.T) {
	for _, c := range [][2]string{
		{"val x = (((1 - (2))) - ((3)));", "val x = 1 - 2 - 3"}, {"((f) (x)) (y)", "f x y"}, {"(case (x) of (A (y)) => ((z)))", "case x of A y => z"}, {"fun f ((x)) (A) = (x)", "fun f x A = x"}, {"exception A of ((int) list)", "exception A of int list"}, {"(1, (2, 3))", "(1, ((2, 3)))"},
	} {
		a, _, e := syntax.Parse(c[0])
		b, _, f := syntax.Parse(c[1])
		if e != api.OK || f != api.OK || !reflect.DeepEqual(a, b) {
			t.Errorf("%s: %s", c[0], shown(a))
		}
	}
}

func TestP8_7_Behind(t *testing.T) {
	for _, behind := range []string{"", " 1", ") ) val", " + + ;", " end"} {
		for _, s := range []string{"val x = )", "(1 ; 2 ,", "fun f x = 1 and =", "1 ; ; "} {
			_, first, e := syntax.Parse(s + " x")
			_, at, f := syntax.Parse(s + behind)
			if e != api.ErrSyntax || f != api.ErrSyntax || at != first && at != len(s+behind) {
				t.Errorf("%s: %d at %d, %d", s+behind, f, at, first)
			}
		}
	}
}

func TestP8_8_Together(t *testing.T) {
	for seed := range uint64(300) {
		m := &maker{seed*104729 + 3}
		a, b := []api.Decl{m.decl(2, 5)}, []api.Decl{m.decl(1, 5), m.decl(1, 5)}
		s, _ := syntax.Print(a)
		r, _ := syntax.Print(b)
		l, _, e := syntax.Parse(strings.TrimSuffix(s, ";") + ";" + r)
		if e == api.ErrLong {
			continue
		}
		if e != api.OK || !reflect.DeepEqual(l, append(a, b...)) {
			t.Errorf("%s ; %s: %d", s, r, e)
		}
	}
}

func TestP8_1_NotKept(t *testing.T) {
	l, _, _ := lex.Scan("val x = (1, 2)")
	a, _, _ := syntax.Read(l)
	for i := range l {
		l[i] = api.Token{}
	}
	if shown(a) != "(val x (tuple 1 2))" {
		t.Error(shown(a))
	}
}
