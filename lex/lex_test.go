package lex_test

import (
	"slices"
	"strings"
	"testing"

	"kindling/api"
	"kindling/lex"
)

func key(s string, at int) api.Token  { return api.Token{Kind: api.TKey, Text: s, At: at} }
func sign(s string, at int) api.Token { return api.Token{Kind: api.TSign, Text: s, At: at} }
func name(s string, at int) api.Token { return api.Token{Kind: api.TName, Text: s, At: at} }
func caps(s string, at int) api.Token { return api.Token{Kind: api.TCap, Text: s, At: at} }
func tvar(s string, at int) api.Token { return api.Token{Kind: api.TVar, Text: s, At: at} }
func text(s string, at int) api.Token { return api.Token{Kind: api.TText, Text: s, At: at} }
func num(n int64, at int) api.Token   { return api.Token{Kind: api.TInt, Num: n, At: at} }
func end(at int) api.Token            { return api.Token{Kind: api.TEnd, At: at} }

const keys = "and andalso case datatype div else end exception fn fun handle if in itos let mod not of ord orelse raise ref size str then val"

const signs = "-> => :: := <= >= <> = < > + - * ^ ! ~ ( ) , ; | _"

// cut asks that a text is cut into these tokens.
func cut(t *testing.T, s string, want ...api.Token) {
	t.Helper()
	l, at, e := lex.Scan(s)
	if e != api.OK || at != 0 || !slices.Equal(l, want) {
		t.Errorf("%q: %v %d %d", s, l, at, e)
	}
}

// wrong asks that a text has an error at a place.
func wrong(t *testing.T, s string, at int, e api.Errno) {
	t.Helper()
	if l, p, f := lex.Scan(s); len(l) != 0 || p != at || f != e {
		t.Errorf("%.80q: %d tokens, %d %d", s, len(l), p, f)
	}
}

func TestP7_1_Examples(t *testing.T) {
	cut(t, "val x' = ~3;", key("val", 0), name("x'", 4), sign("=", 7), sign("~", 9), num(3, 10), sign(";", 11), end(12))
	cut(t, `(* a (* b *) c *) "\x41\n"`, text("A\n", 18), end(26))
	cut(t, "a->b", name("a", 0), sign("->", 1), name("b", 3), end(4))
	wrong(t, "(*)", 0, api.ErrToken)
	wrong(t, "a # b", 2, api.ErrToken)
	cut(t, "", end(0))
	cut(t, " \t\r\n", end(4))
}

func TestP7_1_Numbers(t *testing.T) {
	cut(t, "0 007 4611686018427387903", num(0, 0), num(7, 2), num(api.MaxInt, 6), end(25))
	cut(t, "00000000000000000000000000000004611686018427387903", num(api.MaxInt, 0), end(50))
	cut(t, "12a", num(12, 0), name("a", 2), end(3))
	cut(t, "-5", sign("-", 0), num(5, 1), end(2))
	for _, s := range []string{"4611686018427387904", "9223372036854775808", "18446744073709551616", "46116860184273879030", strings.Repeat("9", 60)} {
		wrong(t, "x "+s+" #", 2, api.ErrToken)
	}
}

func TestP7_1_Texts(t *testing.T) {
	cut(t, `"" "a b" "\"\\\n\t\x00\xFF"`, text("", 0), text("a b", 3), text("\"\\\n\t\x00\xff", 9), end(27))
	cut(t, `"~ !"`, text("~ !", 0), end(5))
	cut(t, `"a""b"`, text("a", 0), text("b", 3), end(6))
	cut(t, `"(* x"`, text("(* x", 0), end(6))
	for _, s := range []string{`"`, `"a`, `"a\"`, `"\`, `"\x"`, `"\x4"`, `"\x4g"`, `"\xaf"`, `"\x4`, `"\a"`, `"\X41"`, "\"a\nb\"", "\"\t\"", "\"\x7f\"", "\"\xc3\xa9\"", "\"\x00\"", `"\ "`} {
		wrong(t, "ab "+s, 3, api.ErrToken)
	}
}

func TestP7_1_Words(t *testing.T) {
	for _, k := range strings.Fields(keys) {
		cut(t, k, key(k, 0), end(len(k)))
		cut(t, k+"x", name(k+"x", 0), end(len(k)+1))
		cut(t, k+"'", name(k+"'", 0), end(len(k)+1))
		up := strings.ToUpper(k[:1]) + k[1:]
		cut(t, up, caps(up, 0), end(len(k)))
	}
	for _, k := range []string{"true", "false", "nil", "A", "Ab_9'c", "Z''"} {
		cut(t, k, caps(k, 0), end(len(k)))
	}
	cut(t, "a b_9'c z'' nils true_", name("a", 0), name("b_9'c", 2), name("z''", 8), name("nils", 12), name("true_", 17), end(22))
	cut(t, "'a 'bC_9'x", tvar("'a", 0), tvar("'bC_9", 3), tvar("'x", 8), end(10))
	wrong(t, "'a' ", 2, api.ErrToken)
	wrong(t, "'A", 0, api.ErrToken)
	wrong(t, "x '", 2, api.ErrToken)
	wrong(t, "'1", 0, api.ErrToken)
	wrong(t, "'_", 0, api.ErrToken)
}

func TestP7_1_Signs(t *testing.T) {
	for _, s := range strings.Fields(signs) {
		cut(t, s, sign(s, 0), end(len(s)))
		cut(t, s+"a", sign(s, 0), name("a", len(s)), end(len(s)+1))
	}
	cut(t, "-->", sign("-", 0), sign("->", 1), end(3))
	cut(t, ":::=", sign("::", 0), sign(":=", 2), end(4))
	cut(t, "<=><>", sign("<=", 0), sign(">", 2), sign("<>", 3), end(5))
	cut(t, "==>", sign("=", 0), sign("=>", 1), end(3))
	cut(t, "_x", sign("_", 0), name("x", 1), end(2))
	cut(t, "*)", sign("*", 0), sign(")", 1), end(2))
	for _, s := range []string{":", "#", "@", "$", "%", "&", "[", "]", "{", "}", "?", ".", "/", "`", "\\", "\x00", "\x0b", "\x7f", "\xff", "é"} {
		wrong(t, "a "+s, 2, api.ErrToken)
	}
}

func TestP7_1_Comments(t *testing.T) {
	cut(t, "(**)(***)a(* \" ' # \x00\xff *)b", name("a", 9), name("b", 24), end(25))
	cut(t, "(*(**)*)(*a*b)c*)d", name("d", 17), end(18))
	cut(t, "( *)", sign("(", 0), sign("*", 2), sign(")", 3), end(4))
	cut(t, "(*(*)*)*)x", name("x", 9), end(10))
	wrong(t, "a (* b (* c *) d", 2, api.ErrToken)
	wrong(t, "(* *) (* (*", 6, api.ErrToken)
	wrong(t, "(*", 0, api.ErrToken)
	wrong(t, "# (*", 0, api.ErrToken)
}

func TestP7_1_Long(t *testing.T) {
	wrong(t, strings.Repeat(" ", api.MaxSource+1), 0, api.ErrLong)
	wrong(t, "#"+strings.Repeat(" ", api.MaxSource), 0, api.ErrLong)
	cut(t, strings.Repeat(" ", api.MaxSource), end(api.MaxSource))
	thousand := strings.Repeat("a ", api.MaxTokens)
	if l, _, e := lex.Scan(thousand); e != api.OK || len(l) != api.MaxTokens+1 || l[999] != name("a", 1998) || l[1000] != end(2000) {
		t.Error(len(l), e)
	}
	wrong(t, thousand+"(* *) b", 2006, api.ErrLong)
	wrong(t, thousand+"b # c", 2000, api.ErrLong)
	wrong(t, thousand+"# b", 2000, api.ErrToken)
	wrong(t, thousand+"(* b", 2000, api.ErrToken)
	if _, _, e := lex.Scan(thousand + "(* b *) "); e != api.OK {
		t.Error(e)
	}
	wrong(t, strings.Repeat("a ", 500)+"#"+strings.Repeat(" a", 600), 1000, api.ErrToken)
}

func TestP7_2_Right(t *testing.T) {
	for _, s := range []string{keys, signs, "'a 'bC_9 a A true x'' 0 12 4611686018427387903", `"" "a\n\x00" "\xFF"`} {
		l, _, _ := lex.Scan(s)
		for _, k := range l {
			for _, at := range []int{k.At, 0, -1, 1 << 60} {
				if k.At = at; !lex.Right(k) {
					t.Error(k)
				}
			}
		}
	}
	if !lex.Right(text(strings.Repeat("\x00x", 5000), 0)) {
		t.Error("a long text")
	}
	for _, k := range []api.Token{
		{Kind: 8}, {Kind: -1}, {Kind: 8, Text: "a"}, {Kind: api.TEnd, Text: "a"}, {Kind: api.TEnd, Num: 1}, {Kind: api.TEnd, Text: ";"},
		num(-1, 0), num(api.MaxInt+1, 0), num(-1<<63, 0), {Kind: api.TInt, Text: "5", Num: 5}, {Kind: api.TText, Num: 1}, {Kind: api.TText, Text: "a", Num: 1},
		name("", 0), name("A", 0), name("val", 0), name("true", 0), name("nil", 0), name("a b", 0), name("a ", 0), name("1a", 0), name("_a", 0), name("'a", 0), name("a-", 0), {Kind: api.TName, Text: "a", Num: 2}, name("é", 0),
		caps("", 0), caps("a", 0), caps("truE", 0), caps("True ", 0), caps("A.B", 0), key("", 0), key("vals", 0), key("a", 0), key("true", 0), key("Val", 0), key("->", 0),
		tvar("", 0), tvar("'", 0), tvar("a", 0), tvar("'A", 0), tvar("'a'", 0), tvar("'1", 0), tvar("''a", 0), sign("", 0), sign(":", 0), sign("val", 0), sign("(*", 0), sign("- ", 0), sign("--", 0), {Kind: api.TSign, Text: "+", Num: 1},
		{Kind: api.TKey, Text: "val", Num: 1}, sign("(**)", 0), sign("5", 0), sign(`""`, 0),
	} {
		if lex.Right(k) {
			t.Error(k)
		}
	}
}

func TestP7_3_Print(t *testing.T) {
	for _, c := range []struct {
		l []api.Token
		s string
	}{
		{nil, ""}, {[]api.Token{end(5)}, ""}, {[]api.Token{num(7, 99), end(0), sign("->", 3), end(0), text("a\n\"", 0)}, `7 -> "a\n\""`},
		{[]api.Token{end(0), key("val", 0), name("x", 0), tvar("'a", 0), caps("nil", 0)}, "val x 'a nil"}, {[]api.Token{sign("(", 0), sign("*", 0)}, "( *"},
		{[]api.Token{text("\x7f\x1f", 0)}, `"\x7F\x1F"`},
	} {
		if s, e := lex.Print(c.l); s != c.s || e != api.OK {
			t.Errorf("%q %d", s, e)
		}
	}
	for _, k := range []api.Token{num(-1, 0), name("val", 0), {Kind: 9}} {
		if s, e := lex.Print([]api.Token{num(1, 0), k, num(2, 0)}); s != "" || e != api.ErrArg {
			t.Errorf("%q %d", s, e)
		}
	}
}

// bare is tokens without places and TEnd.
func bare(l []api.Token) []api.Token {
	var out []api.Token
	for _, k := range l {
		if k.At = 0; k.Kind != api.TEnd {
			out = append(out, k)
		}
	}
	return out
}

// mixed is a long row of tokens.
func mixed(seed int) []api.Token {
	all, _, _ := lex.Scan(keys + " " + signs + ` 'a 'b_ x y' A B'c true nil 0 17 4611686018427387903 "" "a (* \x00\n" "*)"`)
	var l []api.Token
	x := uint64(seed)*2862933555777941757 + 3037000493
	for range 200 {
		x = x*6364136223846793005 + 1442695040888963407
		l = append(l, all[int(x>>33)%(len(all)-1)])
	}
	return bare(l)
}

func TestP7_4_PrintedIsCut(t *testing.T) {
	for seed := range 50 {
		l := mixed(seed)
		s, e := lex.Print(l)
		if e != api.OK {
			t.Fatal(e)
		}
		got, _, e := lex.Scan(s)
		if e != api.OK || !slices.Equal(bare(got), l) || got[len(got)-1] != end(len(s)) {
			t.Error(s)
		}
	}
}

func TestP7_5_Places(t *testing.T) {
	s, _ := lex.Print(mixed(7))
	l, _, _ := lex.Scan(s)
	for i, k := range l[:len(l)-1] {
		if l[i+1].At <= k.At {
			t.Error("places rise", k, l[i+1])
		}
		alone, _, e := lex.Scan(s[k.At:l[i+1].At])
		if e != api.OK || len(alone) != 2 || !slices.Equal(bare(alone), bare(l[i:i+1])) {
			t.Error(k, alone)
		}
	}
}

func TestP7_6_P7_8_Together(t *testing.T) {
	for seed := range 20 {
		l := mixed(seed)[:60]
		a, _ := lex.Print(l[:30])
		b, _ := lex.Print(l[30:])
		for _, between := range []string{"\n", " \t\r\n ", "(* x *)", "\n(* (* *) *) "} {
			got, _, e := lex.Scan(a + between + b)
			if e != api.OK || !slices.Equal(bare(got), l) {
				t.Error(a + between + b)
			}
			if first := got[30].At; first < len(a) {
				t.Error("place", first)
			}
		}
	}
}

func TestP7_7_Behind(t *testing.T) {
	for _, behind := range []string{"", " x", "\x00", "(* *)", "\"", " 4611686018427387904"} {
		wrong(t, "a # "+behind, 2, api.ErrToken)
		wrong(t, "a 99999999999999999999 "+behind, 2, api.ErrToken)
		wrong(t, "a \"\n"+behind, 2, api.ErrToken)
	}
}
