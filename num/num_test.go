package num_test

import (
	"math"
	"math/big"
	"slices"
	"strings"
	"testing"

	"kindling/api"
	"kindling/num"
)

// edges are numbers at which integers begin and end, and others around.
func edges() []int64 {
	l := []int64{math.MinInt64, math.MinInt64 + 1, math.MaxInt64, math.MaxInt64 - 1, 1 << 31, -1 << 31, 1 << 40, 12345678901, -987654321987654321}
	for _, n := range []int64{api.MinInt, 0, api.MaxInt} {
		for d := int64(-3); d <= 3; d++ {
			l = append(l, n+d)
		}
	}
	x := uint64(88172645463325252)
	for range 40 {
		x ^= x << 13
		x ^= x >> 7
		x ^= x << 17
		l = append(l, int64(x), int64(x)>>20, int64(x)>>50)
	}
	return l
}

// wrapped is a whole number wrapped, by big numbers.
func wrapped(n *big.Int) int64 {
	ring := new(big.Int).Lsh(big.NewInt(1), 63)
	r := new(big.Int).Mod(n, ring)
	if r.Cmp(big.NewInt(api.MaxInt)) > 0 {
		r.Sub(r, ring)
	}
	return r.Int64()
}

func TestP1_1_Wrap(t *testing.T) {
	for _, n := range edges() {
		if got, want := num.Fit(n), n >= api.MinInt && n <= api.MaxInt; got != want {
			t.Errorf("Fit(%d) = %v", n, got)
		}
		if got, want := num.Wrap(n), wrapped(big.NewInt(n)); got != want {
			t.Errorf("Wrap(%d) = %d, not %d", n, got, want)
		}
		if got, want := num.Neg(n), wrapped(new(big.Int).Neg(big.NewInt(n))); got != want {
			t.Errorf("Neg(%d) = %d, not %d", n, got, want)
		}
	}
}

func TestP1_1_Sums(t *testing.T) {
	for _, a := range edges() {
		for _, b := range edges() {
			x, y := big.NewInt(a), big.NewInt(b)
			if got, want := num.Add(a, b), wrapped(new(big.Int).Add(x, y)); got != want {
				t.Errorf("Add(%d, %d) = %d, not %d", a, b, got, want)
			}
			if got, want := num.Sub(a, b), wrapped(new(big.Int).Sub(x, y)); got != want {
				t.Errorf("Sub(%d, %d) = %d, not %d", a, b, got, want)
			}
			if got, want := num.Mul(a, b), wrapped(new(big.Int).Mul(x, y)); got != want {
				t.Errorf("Mul(%d, %d) = %d, not %d", a, b, got, want)
			}
		}
	}
}

// floored is the quotient down, and what is left, by big numbers.
func floored(a, b int64) (*big.Int, *big.Int) {
	q, r := new(big.Int).QuoRem(big.NewInt(a), big.NewInt(b), new(big.Int))
	if r.Sign() != 0 && r.Sign() != big.NewInt(b).Sign() {
		q.Sub(q, big.NewInt(1))
		r.Add(r, big.NewInt(b))
	}
	return q, r
}

func TestP1_2_Div(t *testing.T) {
	for _, a := range edges() {
		for _, b := range edges() {
			d, e := num.Div(a, b)
			m, f := num.Mod(a, b)
			x, y := wrapped(big.NewInt(a)), wrapped(big.NewInt(b))
			if y == 0 {
				if d != 0 || m != 0 || e != api.ErrZero || f != api.ErrZero {
					t.Errorf("%d by %d = %d, %d, %d, %d", a, b, d, e, m, f)
				}
				continue
			}
			q, r := floored(x, y)
			if e != api.OK || f != api.OK || d != wrapped(q) || m != r.Int64() {
				t.Errorf("%d by %d = %d, %d, %d, %d", a, b, d, e, m, f)
			}
		}
	}
}

func TestP1_2_Examples(t *testing.T) {
	for _, c := range []struct{ a, b, div, mod int64 }{
		{-7, 2, -4, 1}, {7, -2, -4, -1}, {7, 2, 3, 1}, {-7, -2, 3, -1}, {6, -2, -3, 0},
		{api.MinInt, -1, api.MinInt, 0}, {api.MinInt, 1, api.MinInt, 0}, {api.MaxInt + 1, 1, api.MinInt, 0},
	} {
		if d, e := num.Div(c.a, c.b); d != c.div || e != api.OK {
			t.Errorf("Div(%d, %d) = %d, %d", c.a, c.b, d, e)
		}
		if m, e := num.Mod(c.a, c.b); m != c.mod || e != api.OK {
			t.Errorf("Mod(%d, %d) = %d, %d", c.a, c.b, m, e)
		}
	}
	if _, e := num.Div(5, math.MinInt64); e != api.ErrZero {
		t.Error("a multiple of 2^63 is 0 when it is wrapped", e)
	}
}

func TestP1_3_Text(t *testing.T) {
	for _, n := range edges() {
		s := num.Text(n)
		if s != big.NewInt(n).String() {
			t.Errorf("Text(%d) = %s", n, s)
		}
		got, e := num.Parse(s)
		if num.Fit(n) && (got != n || e != api.OK) || !num.Fit(n) && (got != 0 || e != api.ErrNumber) {
			t.Errorf("Parse(%s) = %d, %d", s, got, e)
		}
	}
}

func TestP1_3_NoNumber(t *testing.T) {
	for _, s := range []string{
		"", "-", "--1", "+1", "007", "00", "-0", "-01", " 1", "1 ", "1a", "a", "0x10", "1_000", "1-", "1.0", "1e3", "１",
		"4611686018427387904", "-4611686018427387905", "9223372036854775807", "-9223372036854775808",
		"18446744073709551617", "9223372036854775809", "36893488147419103233", strings.Repeat("9", 100), "1" + strings.Repeat("0", 64), "\x00", "5\n",
	} {
		if n, e := num.Parse(s); n != 0 || e != api.ErrNumber {
			t.Errorf("Parse(%q) = %d, %d", s, n, e)
		}
	}
}

func TestP1_4_Words(t *testing.T) {
	for _, n := range edges() {
		w := num.Int(n)
		if w != uint64(wrapped(big.NewInt(n)))*2+1 {
			t.Errorf("Int(%d) = %x", n, w)
		}
		if !num.IsInt(w) || num.IsPtr(w) || num.ToInt(w) != num.Wrap(n) || num.ToPtr(w) != 0 {
			t.Errorf("the word of %d is not read", n)
		}
	}
	if num.Int(-1) != math.MaxUint64 || num.Int(3) != 7 {
		t.Error("examples")
	}
}

func TestP1_4_Addresses(t *testing.T) {
	for _, a := range []int{1, 2, 3, 64, api.MaxAddr - 1, api.MaxAddr} {
		w := num.Ptr(a)
		if w != 2*uint64(a) || num.IsInt(w) || !num.IsPtr(w) || num.ToPtr(w) != a || num.ToInt(w) != 0 {
			t.Errorf("Ptr(%d) = %x", a, w)
		}
	}
	for _, a := range []int{0, -1, -5, api.MaxAddr + 1, math.MaxInt, math.MinInt} {
		if num.Ptr(a) != 1 {
			t.Errorf("Ptr(%d) = %x", a, num.Ptr(a))
		}
	}
	for _, w := range []uint64{0, 2*api.MaxAddr + 2, 1 << 63, math.MaxUint64 - 1} {
		if num.IsPtr(w) || num.IsInt(w) || num.ToPtr(w) != 0 || num.ToInt(w) != 0 {
			t.Errorf("%x is no word", w)
		}
	}
}

func TestP1_5_Pack(t *testing.T) {
	if l := num.Pack("abcdefghi"); !slices.Equal(l, []uint64{0x6867666564636261, 0x69}) {
		t.Errorf("%x", l)
	}
	if l := num.Pack(""); len(l) != 0 {
		t.Errorf("%x", l)
	}
	for n := range 40 {
		s := strings.Repeat("x\x00\xff\x80yz", 10)[:n]
		l := num.Pack(s)
		if len(l) != (n+7)/8 {
			t.Errorf("%d bytes have %d words", n, len(l))
		}
		if got, e := num.Unpack(l, n); got != s || e != api.OK {
			t.Errorf("Unpack of Pack of %q is %q, %d", s, got, e)
		}
	}
}

func TestP1_5_Unpack(t *testing.T) {
	if s, e := num.Unpack([]uint64{0x69}, 2); s != "i\x00" || e != api.OK {
		t.Errorf("%q %d", s, e)
	}
	for _, c := range []struct {
		l []uint64
		n int
	}{
		{nil, -1}, {nil, 1}, {[]uint64{1}, 0}, {[]uint64{0}, 0}, {[]uint64{0x6900}, 1}, {[]uint64{1 << 56}, 7}, {[]uint64{1, 0}, 8}, {[]uint64{1}, 9},
		{nil, math.MaxInt}, {nil, math.MinInt}, {[]uint64{1, 1 << 63}, 15}, {[]uint64{1}, math.MaxInt - 7},
	} {
		if s, e := num.Unpack(c.l, c.n); s != "" || e != api.ErrArg {
			t.Errorf("Unpack(%x, %d) = %q, %d", c.l, c.n, s, e)
		}
	}
	if s, e := num.Unpack([]uint64{math.MaxUint64}, 8); s != strings.Repeat("\xff", 8) || e != api.OK {
		t.Errorf("%q %d", s, e)
	}
}

func TestP1_5_Each(t *testing.T) {
	words := num.Each("abcdefghijklmnopqrst")
	for range 2 { // it may be gone over again
		var l []uint64
		for i, w := range words {
			if i != len(l) {
				t.Error("number", i)
			}
			l = append(l, w)
		}
		if !slices.Equal(l, num.Pack("abcdefghijklmnopqrst")) {
			t.Errorf("%x", l)
		}
		for i := range words { // and left early
			if i == 1 {
				break
			}
		}
	}
	for range num.Each("") {
		t.Error("a word of nothing")
	}
}

func TestP1_6_Ring(t *testing.T) {
	l := edges()
	for i, a := range l {
		b, c := l[(i*7+3)%len(l)], l[(i*11+5)%len(l)]
		if num.Add(a, b) != num.Add(b, a) || num.Mul(a, b) != num.Mul(b, a) {
			t.Error("order", a, b)
		}
		if num.Add(num.Add(a, b), c) != num.Add(a, num.Add(b, c)) || num.Mul(num.Mul(a, b), c) != num.Mul(a, num.Mul(b, c)) {
			t.Error("brackets", a, b, c)
		}
		if num.Mul(a, num.Add(b, c)) != num.Add(num.Mul(a, b), num.Mul(a, c)) {
			t.Error("product of a sum", a, b, c)
		}
		if num.Sub(num.Add(a, b), b) != num.Wrap(a) {
			t.Error("taken away", a, b)
		}
	}
}

func TestP1_7_DivMod(t *testing.T) {
	for _, a := range edges() {
		for _, b := range edges() {
			if !num.Fit(a) || !num.Fit(b) || b == 0 {
				continue
			}
			d, _ := num.Div(a, b)
			m, _ := num.Mod(a, b)
			if num.Add(num.Mul(b, d), m) != a || m != 0 && (m < 0) != (b < 0) || m != 0 && b > 0 && m >= b || b < 0 && m <= b {
				t.Errorf("%d by %d: %d, %d", a, b, d, m)
			}
		}
	}
}

func TestP1_8_Unlike(t *testing.T) {
	seen := map[uint64]int64{}
	for _, n := range edges() {
		if m, ok := seen[num.Int(n)]; ok && num.Fit(n) && m != n {
			t.Error("one word of", n, m)
		}
		if num.Fit(n) {
			seen[num.Int(n)] = n
		}
	}
}

func TestP1_9_UnlikeTexts(t *testing.T) {
	l := []string{"abcdefgh1", "abcdefgh2", "bbcdefgh1", "\x00bcdefgh1", "abcdefgh\x00"}
	for i, a := range l {
		for _, b := range l[:i] {
			if slices.Equal(num.Pack(a), num.Pack(b)) {
				t.Errorf("%q and %q", a, b)
			}
		}
	}
}
