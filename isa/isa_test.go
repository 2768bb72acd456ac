package isa_test

import (
	"math"
	"slices"
	"strings"
	"testing"

	"kindling/api"
	"kindling/isa"
)

// forms is the chapter's table.
func forms() map[string][]string {
	return map[string][]string{
		"an":  {"1 int", "2 lit", "4 put", "5 load", "6 save", "16 tuple", "17 closure", "24 unless"},
		"ab":  {"3 move", "12 neg", "18 ref", "21 assign", "22 tag", "26 call", "27 tail", "33 size", "34 str", "36 digits"},
		"abc": {"7 add", "8 sub", "9 mul", "10 div", "11 mod", "13 less", "14 atmost", "15 same", "32 join", "35 ord"},
		"abn": {"19 field", "20 fill"},
		"n":   {"23 jump", "25 enter", "29 handle"},
		"a":   {"28 return", "31 raise"},
		"":    {"30 unhandle"},
	}
}

// some is a right instruction of an operation, with parts that hang on k.
func some(op, k int) api.Ins {
	i := api.Ins{Op: op}
	for _, c := range isa.Form(op) {
		switch c {
		case 'a':
			i.A = (k + 1) % 16
		case 'b':
			i.B = (k*7 + 2) % 16
		case 'c':
			i.C = (k*11 + 3) % 16
		case 'n':
			i.N = []int{0, 1, -1, 5, api.MaxImm, api.MinImm, -77}[k%7]
		}
	}
	return i
}

// all are many right instructions.
func all() []api.Ins {
	var l []api.Ins
	for op := 1; op <= api.MaxOp; op++ {
		for k := range 23 {
			if i := some(op, k); !slices.Contains(l, i) {
				l = append(l, i)
			}
		}
	}
	return l
}

func TestP3_1_Table(t *testing.T) {
	n := 0
	for form, ops := range forms() {
		for _, o := range ops {
			number, name, _ := strings.Cut(o, " ")
			op := 0
			for _, c := range number {
				op = op*10 + int(c-'0')
			}
			n++
			if isa.Name(op) != name || isa.Form(op) != form {
				t.Error(op, isa.Name(op), isa.Form(op))
			}
		}
	}
	if n != api.MaxOp {
		t.Error(n, "operations")
	}
	for _, op := range []int{0, -1, 37, 256, math.MaxInt, math.MinInt} {
		if isa.Name(op) != "" || isa.Form(op) != "" {
			t.Error(op)
		}
	}
}

func TestP3_2_Check(t *testing.T) {
	for _, i := range all() {
		if e := isa.Check(i); e != api.OK {
			t.Error(i, e)
		}
		if e := isa.Check(api.Ins{Op: i.Op + 100, A: 77, N: math.MaxInt}); e != api.ErrOp {
			t.Error("ErrOp is first", e)
		}
		for bit, place := range []*int{&i.A, &i.B, &i.C, &i.N} {
			named := strings.Contains(isa.Form(i.Op), "abcn"[bit:bit+1])
			old := *place
			for _, n := range []int{-1, 16, 255, math.MaxInt, math.MinInt} {
				*place = n
				want := api.ErrArg
				switch {
				case named && bit < 3:
					want = api.ErrReg
				case named && n >= api.MinImm && n <= api.MaxImm:
					want = api.OK
				}
				if e := isa.Check(i); e != want {
					t.Errorf("%v: %d, not %d", i, e, want)
				}
				if w, e := isa.Encode(i); e != want || want != api.OK && w != 0 {
					t.Errorf("Encode %v: %d, not %d", i, e, want)
				}
			}
			*place = old
		}
	}
	for _, c := range []struct {
		i api.Ins
		e api.Errno
	}{
		{api.Ins{}, api.ErrOp}, {api.Ins{Op: 37}, api.ErrOp}, {api.Ins{Op: -3}, api.ErrOp},
		{api.Ins{Op: api.OpMove, B: 16, C: 1}, api.ErrReg}, {api.Ins{Op: api.OpMove, C: 1}, api.ErrArg},
		{api.Ins{Op: api.OpJump, N: api.MaxImm + 1}, api.ErrArg}, {api.Ins{Op: api.OpJump, N: api.MinImm - 1}, api.ErrArg},
		{api.Ins{Op: api.OpInt, A: 16, N: api.MaxImm + 1}, api.ErrReg},
	} {
		if e := isa.Check(c.i); e != c.e {
			t.Error(c.i, e)
		}
	}
}

func TestP3_2_Words(t *testing.T) {
	for _, i := range all() {
		want := uint64(i.Op) + uint64(i.A)<<8 + uint64(i.B)<<16 + uint64(i.C)<<24 + uint64(uint32(int32(i.N)))<<32
		w, e := isa.Encode(i)
		if w != want || e != api.OK {
			t.Errorf("Encode %v = %x, %d", i, w, e)
		}
		if back, e := isa.Decode(w); back != i || e != api.OK {
			t.Errorf("Decode %x = %v, %d", w, back, e)
		}
	}
	if w, _ := isa.Encode(api.Ins{Op: api.OpAdd, A: 1, B: 2, C: 3}); w != 0x03020107 {
		t.Errorf("%x", w)
	}
	if w, _ := isa.Encode(api.Ins{Op: api.OpJump, N: -1}); w != 0xffffffff00000017 {
		t.Errorf("%x", w)
	}
}

func TestP3_2_NoWords(t *testing.T) {
	for _, c := range []struct {
		w uint64
		e api.Errno
	}{
		{0, api.ErrOp}, {37, api.ErrOp}, {255, api.ErrOp}, {0x1003, api.ErrReg}, {0x100003, api.ErrReg}, {0x01000003, api.ErrArg}, {1<<32 | 3, api.ErrArg},
		{0x10000007, api.ErrReg}, {1<<63 | 30, api.ErrArg}, {0x100 | 30, api.ErrArg}, {0x10000 | 28, api.ErrArg}, {0xff000000 | 0x1003, api.ErrReg}, {0x100 | 23, api.ErrArg},
	} {
		if i, e := isa.Decode(c.w); i != (api.Ins{}) || e != c.e {
			t.Errorf("Decode %x = %v, %d", c.w, i, e)
		}
	}
	if i, e := isa.Decode(0x0103); i != (api.Ins{Op: api.OpMove, A: 1}) || e != api.OK {
		t.Error(i, e)
	}
}

func TestP3_3_Texts(t *testing.T) {
	for _, c := range []struct {
		i api.Ins
		s string
	}{
		{api.Ins{Op: api.OpField, A: 1, B: 2, N: 5}, "field r1 r2 5"}, {api.Ins{Op: api.OpUnhandle}, "unhandle"},
		{api.Ins{Op: api.OpJump, N: -1}, "jump -1"}, {api.Ins{Op: api.OpSame, A: 15, B: 10, C: 9}, "same r15 r10 r9"},
		{api.Ins{Op: api.OpInt, A: 3, N: api.MinImm}, "int r3 -2147483648"}, {api.Ins{Op: api.OpReturn, A: 7}, "return r7"},
	} {
		if s := isa.Text(c.i); s != c.s {
			t.Error(c.i, s)
		}
		if i, e := isa.Parse(c.s); i != c.i || e != api.OK {
			t.Error(c.s, i, e)
		}
	}
	for _, i := range []api.Ins{{}, {Op: 37}, {Op: api.OpMove, A: 16}, {Op: api.OpMove, N: 1}, {Op: api.OpJump, N: math.MaxInt}} {
		if s := isa.Text(i); s != "" {
			t.Error(i, s)
		}
	}
}

func TestP3_3_NoTexts(t *testing.T) {
	for _, s := range []string{
		"", " ", "add", "add r1 r2", "add r1 r2 r16", "add r1 r2 r3 ", " add r1 r2 r3", "add  r1 r2 r3", "add r1 r2 r3 r4", "add r1 r2 3", "add r1 r2 r03", "add r1 r2 r-0",
		"jump 05", "jump", "jump r5", "jump +5", "jump 2147483648", "jump -2147483649", "jump 99999999999999999999", "unhandle ", "unhandle 0", "Add r1 r2 r3", "int r1", "int 1 1", "add r1 r2 r",
		"add r1 r2 rr3", "add r1 r2 R3", "nothing", "move r1 r2\n", "add r1 r2 r-1", "0", "return r1 0",
	} {
		if i, e := isa.Parse(s); i != (api.Ins{}) || e != api.ErrText {
			t.Errorf("%q: %v, %d", s, i, e)
		}
	}
}

func TestP3_4_Reads(t *testing.T) {
	reads := map[string]string{"lit": "", "int": "", "load": "", "tuple": "", "closure": "", "put": "a", "save": "a", "unless": "a", "return": "a", "raise": "a"}
	for _, n := range []string{"move", "neg", "ref", "tag", "size", "str", "digits", "field"} {
		reads[n] = "b"
	}
	for _, n := range []string{"add", "sub", "mul", "div", "mod", "less", "atmost", "same", "join", "ord"} {
		reads[n] = "bc"
	}
	for _, n := range []string{"fill", "assign", "call", "tail"} {
		reads[n] = "ab"
	}
	for _, i := range all() {
		var want []int
		for _, c := range reads[isa.Name(i.Op)] {
			want = append(want, map[rune]int{'a': i.A, 'b': i.B, 'c': i.C}[c])
		}
		if got := isa.Reads(i); !slices.Equal(got, want) {
			t.Error(isa.Text(i), got, want)
		}
		var writes []int
		if form := isa.Form(i.Op); strings.HasPrefix(form, "a") && !strings.Contains(reads[isa.Name(i.Op)], "a") {
			writes = []int{i.A}
		} else if i.Op == api.OpCall {
			writes = []int{0}
		}
		if got := isa.Writes(i); !slices.Equal(got, writes) {
			t.Error(isa.Text(i), got, writes)
		}
	}
	for _, i := range []api.Ins{{}, {Op: 99}, {Op: api.OpAdd, A: 1, B: 16, C: 2}, {Op: api.OpMove, C: 1}} {
		if len(isa.Reads(i)) != 0 || len(isa.Writes(i)) != 0 {
			t.Error(i)
		}
	}
	if got := isa.Reads(api.Ins{Op: api.OpAdd, A: 1, B: 2, C: 2}); !slices.Equal(got, []int{2, 2}) {
		t.Error("as often as it is named", got)
	}
}

func TestP3_5_Lines(t *testing.T) {
	for _, c := range []struct {
		s string
		l []string
	}{
		{"", nil}, {"\n", []string{""}}, {"a", []string{"a"}}, {"a\n", []string{"a"}}, {"a\nb", []string{"a", "b"}}, {"\n\na\n\n", []string{"", "", "a", ""}}, {"a\r\n", []string{"a\r"}},
	} {
		lines := isa.Lines(c.s)
		for range 2 {
			var l []string
			for n, line := range lines {
				if n != len(l) {
					t.Error("number", n)
				}
				l = append(l, line)
			}
			if !slices.Equal(l, c.l) {
				t.Errorf("%q: %q", c.s, l)
			}
			for range lines {
				break
			}
		}
	}
}

func TestP3_5_List(t *testing.T) {
	s, e := isa.List([]api.Ins{{Op: api.OpJump, N: -1}, {Op: api.OpUnhandle}})
	if s != "jump -1\nunhandle\n" || e != api.OK {
		t.Errorf("%q %d", s, e)
	}
	if s, e := isa.List(nil); s != "" || e != api.OK {
		t.Errorf("%q %d", s, e)
	}
	if s, e := isa.List([]api.Ins{{Op: api.OpJump}, {Op: api.OpMove, A: 16}, {}}); s != "" || e != api.ErrReg {
		t.Errorf("%q %d", s, e)
	}
	long := slices.Repeat([]api.Ins{{Op: api.OpUnhandle}}, 4097)
	if s, e := isa.List(long[:4096]); len(s) != 9*4096 || e != api.OK {
		t.Error(len(s), e)
	}
	long[0].Op = 0
	if s, e := isa.List(long); s != "" || e != api.ErrLong {
		t.Error(len(s), e)
	}
}

func TestP3_5_Read(t *testing.T) {
	if l, n, e := isa.Read("jump -1\nunhandle"); !slices.Equal(l, []api.Ins{{Op: api.OpJump, N: -1}, {Op: api.OpUnhandle}}) || n != 0 || e != api.OK {
		t.Error(l, n, e)
	}
	if l, n, e := isa.Read(""); len(l) != 0 || n != 0 || e != api.OK {
		t.Error(l, n, e)
	}
	for _, c := range []struct {
		s string
		n int
	}{{"jump\n", 0}, {"jump 1\n\njump\n", 1}, {"jump 1\nunhandle\nx\ny", 2}, {"\n", 0}} {
		if l, n, e := isa.Read(c.s); len(l) != 0 || n != c.n || e != api.ErrText {
			t.Errorf("%q: %v %d %d", c.s, l, n, e)
		}
	}
	long := strings.Repeat("unhandle\n", 4096)
	if l, n, e := isa.Read(long); len(l) != 4096 || n != 0 || e != api.OK {
		t.Error(len(l), n, e)
	}
	for _, s := range []string{long + "unhandle", "x\n" + long} {
		if l, n, e := isa.Read(s); len(l) != 0 || n != 0 || e != api.ErrLong {
			t.Error(len(l), n, e)
		}
	}
}

func TestP3_6_P3_7_Unlike(t *testing.T) {
	words, texts := map[uint64]api.Ins{}, map[string]api.Ins{}
	for _, i := range all() {
		w, _ := isa.Encode(i)
		if other, ok := words[w]; ok {
			t.Error("one word", i, other)
		}
		s := isa.Text(i)
		if other, ok := texts[s]; ok {
			t.Error("one text", i, other)
		}
		words[w], texts[s] = i, i
		if back, e := isa.Parse(s); back != i || e != api.OK {
			t.Error(s, back, e)
		}
	}
	s, _ := isa.List(all())
	if l, _, e := isa.Read(s); !slices.Equal(l, all()) || e != api.OK {
		t.Error("Read of List", e)
	}
}

func TestP3_6_P3_8_Decoded(t *testing.T) {
	x := uint64(88172645463325252)
	for range 20000 {
		x ^= x << 13
		x ^= x >> 7
		x ^= x << 17
		w := x&0xffffffff0f0f0f00 | x>>40%40
		i, e := isa.Decode(w)
		if e != api.OK {
			continue
		}
		if int(w&255) != i.Op {
			t.Errorf("%x: %v", w, i)
		}
		if back, e := isa.Encode(i); back != w || e != api.OK {
			t.Errorf("Encode of Decode %x = %x, %d", w, back, e)
		}
	}
}
