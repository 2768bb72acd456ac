package desk_test

import (
	"math"
	"strconv"
	"strings"
	"testing"

	"kindling/api"
	"kindling/desk"
	"kindling/session"
)

// lines are right lines and their texts.
func lines() []struct {
	l desk.Line
	s string
} {
	return []struct {
		l desk.Line
		s string
	}{
		{desk.Line{Kind: desk.KNew, A: 12000, B: 6000}, "new 12000 6000 0"}, {desk.Line{Kind: desk.KNew, A: -1 << 31, B: 1<<31 - 1, C: -5}, "new -2147483648 2147483647 -5"}, {desk.Line{Kind: desk.KDo, A: 5, B: -6, Text: "val x = 1"}, `do 5 -6 "val x = 1"`}, {desk.Line{Kind: desk.KDo}, `do 0 0 ""`},
		{desk.Line{Kind: desk.KDo, Text: "a\n\t\"\\\x00\xff ~n"}, `do 0 0 "a\n\t\"\\\x00\xFF ~n"`}, {desk.Line{Kind: desk.KNames}, "names"}, {desk.Line{Kind: desk.KLine, Text: "x y"}, `line "x y"`}, {desk.Line{Kind: desk.KLine}, `line ""`}, {desk.Line{Kind: desk.KLive}, "live"},
		{desk.Line{Kind: desk.KSave, A: 9}, "save 9"}, {desk.Line{Kind: desk.KSave}, "save 0"}, {desk.Line{Kind: desk.KBack, A: 3}, "back 3"},
	}
}

func TestP14_1_P14_3_Lines(t *testing.T) {
	for _, x := range lines() {
		if l, e := desk.Parse(x.s); l != x.l || e != api.OK {
			t.Errorf("%s: %v %d", x.s, l, e)
		}
		if s, e := desk.Text(x.l); s != x.s || e != api.OK {
			t.Errorf("%v: %s %d", x.l, s, e)
		}
	}
	for n := range 256 { // each byte, and a long text
		l := desk.Line{Kind: desk.KLine, Text: strings.Repeat(string([]byte{byte(n), 'x'}), 3000)}
		s, e := desk.Text(l)
		if back, f := desk.Parse(s); back != l || e != api.OK || f != api.OK {
			t.Error(n, e, f)
		}
	}
}

func TestP14_1_NoLines(t *testing.T) {
	for _, s := range []string{
		"", " ", "foo", "names ", " names", "names 1", "Names", "live 0", "live\n", "new", "new 1", "new 1 2", "new 1 2 3 4", "new 1 2  3", "new 1 2 3 ", "new 01 2 3", "new +1 2 3", "new -0 2 3", "new 2147483648 1 1", "new 1 -2147483649 1", "new 1 1 99999999999999999999", "new a 1 1",
		"do", `do "x"`, `do 1 "x"`, `do 1 2`, `do 1 2 `, `do 1 2 x`, `do 1 2 "x`, `do 1 2 x"`, `do 1 2 "`, `do 1 2 "x" `, `do 1 2  "x"`, `do 1 2 "x" "y"`, `do 1 2 "a"b"`, `do 1 2 "\"`, `do 1 2 "\a"`, `do 1 2 "\x4"`, `do 1 2 "\xaf"`, `do 1 2 "\x41"`, `do 1 2 "\x0A"`, "do 1 2 \"\t\"", "do 1 2 \"é\"", `do 1 2 "\x"`, `do 1 2 "\`, `do 1 2 3 "x"`,
		"line", "line ", "line x", `line "x" `, `line  "x"`, `line 1 "x"`, "save", "save 10", "save -1", "save 01", "save 1 2", "save x", `save "1"`, "back", "back 10", "back -1", "back 1 ", "back 2147483648",
	} {
		if l, e := desk.Parse(s); l != (desk.Line{}) || e != api.ErrForm {
			t.Errorf("%q: %v %d", s, l, e)
		}
	}
	for _, l := range []desk.Line{
		{}, {Kind: 8}, {Kind: -1}, {Kind: math.MaxInt}, {Kind: desk.KNew, A: 1 << 31}, {Kind: desk.KNew, B: -1<<31 - 1}, {Kind: desk.KNew, C: math.MaxInt}, {Kind: desk.KNew, Text: "x"}, {Kind: desk.KDo, C: 1}, {Kind: desk.KDo, A: math.MinInt}, {Kind: desk.KNames, A: 1}, {Kind: desk.KNames, Text: "x"}, {Kind: desk.KLine, A: 1}, {Kind: desk.KLine, C: 1}, {Kind: desk.KLive, B: 1}, {Kind: desk.KLive, Text: "x"},
		{Kind: desk.KSave, A: 10}, {Kind: desk.KSave, A: -1}, {Kind: desk.KSave, B: 1}, {Kind: desk.KSave, Text: "x"}, {Kind: desk.KBack, A: 10}, {Kind: desk.KBack, C: 1},
	} {
		if s, e := desk.Text(l); s != "" || e != api.ErrForm {
			t.Errorf("%v: %s %d", l, s, e)
		}
	}
}

// plays asks what a script answers, line by line.
func plays(t *testing.T, script []string, want ...string) {
	t.Helper()
	s, e := desk.Run(strings.Join(script, "\n") + "\n")
	if e != api.OK || s != strings.Join(want, "\n")+"\n" {
		t.Errorf("%s\nanswers %s\nnot %s", strings.Join(script, "\n"), s, strings.Join(want, "\n"))
	}
}

func TestP14_2_Examples(t *testing.T) {
	plays(t, []string{"new 12000 6000 0", `do 5000 0 "val x = 6 * 7"`, `line "x"`, `do 5000 0 "val x ="`, "foo"}, "ok", "1 1", "val x = 42 : int", "val x = 42 : int", "2 1", "wrong token at 7", "error 110")
}

func TestP14_2_Run(t *testing.T) {
	plays(t, []string{`do 1 0 "1"`, "names", `line "x"`, "live", "save 1", "back 1", "", "new 1 2 3", "names", "new 64 16 0", "names", "live", "back 1", "save 1", "back 1"}, "none", "none", "none", "none", "none", "none", "error 110", "error 1", "none", "ok", "0", "0", "none", "ok", "ok")
	plays(t, []string{"new 12000 6000 0", `do 5000 0 "val b = 1; val a = 2"`, "new 0 0 0", "names", `do 5000 0 ""`, `do 0 0 "1"`, `do 5000 1 "1"`, `do 5000 0 "val b = 1 div 0"`, `line "c"`, `line "a"`, `do 5000 0 "\"x\\n\""`},
		"ok", "1 2", "val b = 1 : int", "val a = 2 : int", "error 1", "2 b a", "1 0", "6 1", "timeout", "5 1", "interrupted", "4 1", "uncaught exception Div", "none", "val a = 2 : int", "1 1", `val it = "x\n" : string`)
	plays(t, []string{"new 12000 6000 1", `do 5000 0 "val r = ref 1"`, "save 0", `do 5000 0 "r := 2"`, "save 9", "back 0", `line "r"`, `do 5000 0 "r := 3"`, "back 9", `line "r"`, "back 0", `line "r"`, "names", "back 5", "new 12000 6000 0", "names", "back 9", "names"},
		"ok", "1 1", "val r = ref 1 : int ref", "ok", "1 1", "val it = () : unit", "ok", "ok", "val r = ref 1 : int ref", "1 1", "val it = () : unit", "ok", "val r = ref 2 : int ref", "ok", "val r = ref 1 : int ref", "1 r", "none", "ok", "0", "ok", "2 r it")
}

func TestP14_2_Script(t *testing.T) {
	for script, want := range map[string]string{"": "", "\n": "error 110\n", "names": "none\n", "names\n": "none\n", "names\n\n": "none\nerror 110\n", "names\r\n": "error 110\n", "foo\nnames": "error 110\nnone\n"} {
		if s, e := desk.Run(script); s != want || e != api.OK {
			t.Errorf("%q: %q %d", script, s, e)
		}
	}
	for n, want := range map[int]api.Errno{api.MaxItems: api.OK, api.MaxItems + 1: api.ErrLong} {
		s, e := desk.Run(strings.Repeat("names\n", n))
		if e != want || want == api.OK && s != strings.Repeat("none\n", n) || want != api.OK && s != "" {
			t.Error(n, e)
		}
	}
	if _, e := desk.Run(strings.Repeat("\n", api.MaxItems) + "x"); e != api.ErrLong {
		t.Error("what stands behind the last byte 10 is a line", e)
	}
	long := strings.Repeat("x", api.MaxScript-1) + "\n"
	if s, e := desk.Run(long); s != "error 110\n" || e != api.OK {
		t.Error(e)
	}
	if s, e := desk.Run("x" + long); s != "" || e != api.ErrLong {
		t.Error(e)
	}
}

// script is a long script.
func script() []string {
	return []string{
		"new 12000 6000 0", `do 9999 0 "val r = ref 0; fun up n = r := !r + n"`, "save 1", `do 9999 0 "up 5; !r"`, "live", "names", `do 9999 3 "up 6"`, `line "r"`, "save 2", `do 9999 0 "datatype t = A | B of int; B 3"`, "back 1", `do 9999 0 "A"`, `do 9999 0 "up 1; !r"`, "back 2", `do 9999 0 "!r"`, "live", `do 9999 0 "exception E of int; val _ = raise E 4"`, `do 300 0 "fun l n = l (n + 1); l 0 + 0"`, "new 1 1 1", `line "it"`, "names",
	}
}

func TestP14_4_Beginning(t *testing.T) {
	all, _ := desk.Run(strings.Join(script(), "\n"))
	for n := range script() {
		if some, e := desk.Run(strings.Join(script()[:n], "\n")); e != api.OK || !strings.HasPrefix(all, some) {
			t.Errorf("%d lines: %s", n, some)
		}
	}
	if strings.Contains(all, "error 110") || strings.Count(all, "\n") < 30 {
		t.Error(all)
	}
}

func TestP14_5_W6_Calls(t *testing.T) {
	var want []string
	var s *session.Session
	kept := map[int]*session.Session{}
	for _, line := range script() {
		l, e := desk.Parse(line)
		if e != api.OK {
			t.Fatal(line)
		}
		answer := "ok"
		switch l.Kind {
		case desk.KNew:
			if n, e := session.New(api.Options{Words: l.A, Stack: l.B, Every: l.C}); e == api.OK {
				s = n
			} else {
				answer = "error 1"
			}
		case desk.KDo:
			r := s.Do(api.Item{Text: l.Text, Budget: l.A, Stop: l.B})
			answer = strings.Join(append([]string{strconv.Itoa(r.Kind) + " " + strconv.Itoa(len(r.Lines))}, r.Lines...), "\n")
		case desk.KNames:
			answer = strings.Join(append([]string{strconv.Itoa(len(s.Names()))}, s.Names()...), " ")
		case desk.KLine:
			answer, _ = s.Line(l.Text)
		case desk.KLive:
			answer = strconv.Itoa(s.Live())
		case desk.KSave:
			kept[l.A] = s.Copy()
		case desk.KBack:
			s = kept[l.A].Copy()
		}
		want = append(want, answer)
	}
	plays(t, script(), want...)
}

func TestP14_6_SaveAndBack(t *testing.T) {
	first := []string{"new 12000 6000 0", `do 9999 0 "val r = ref 0; fun up n = r := !r + n"`}
	between := []string{"save 3", `do 9999 0 "up 7; val r = 5; datatype t = T"`, `do 9999 0 "val up = 1"`, "new 64 16 0", "back 3"}
	then := []string{"names", `do 9999 0 "up 1; !r"`, `line "r"`, "live", `do 9999 0 "T"`}
	a, _ := desk.Run(strings.Join(append(first, then...), "\n"))
	b, _ := desk.Run(strings.Join(append(append(first[:2:2], between...), then...), "\n"))
	tail := func(s string) string { return s[strings.Index(s, "2 r up"):] }
	if tail(a) != b[strings.LastIndex(b, "2 r up"):] {
		t.Errorf("%s\nnot %s", b, a)
	}
}
