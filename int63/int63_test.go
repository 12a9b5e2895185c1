package int63

import (
	"math"
	"math/big"
	"math/rand"
	"strings"
	"testing"

	"cognate/api"
)

// edges returns numbers around the limits of int64 and of the integers, and around every power of two between them.
func edges() []int64 {
	l := []int64{0, 1, -1, 2, -2, 3, -3, 7, -7, 9, -9, 10, -10, 99, 100, math.MaxInt64, math.MinInt64,
		math.MaxInt64 - 1, math.MinInt64 + 1, api.MaxInt, api.MaxInt - 1, api.MaxInt + 1, api.MaxInt + 2,
		api.MinInt, api.MinInt + 1, api.MinInt - 1, api.MinInt - 2, 3037000499, 3037000500, -3037000500}
	for i := range 63 {
		p := int64(1) << i
		l = append(l, p-1, p, p+1, -p)
	}
	return l
}

// samples returns the edges and some arbitrary numbers of all lengths, always the same ones.
func samples() []int64 {
	l := edges()
	r := rand.New(rand.NewSource(1))
	for range 150 {
		l = append(l, int64(r.Uint64())>>r.Intn(64))
	}
	return l
}

// meaning is P1.1's word taken literally: the integer that differs from n by a multiple of 2^63.
func meaning(n *big.Int) int64 {
	half := big.NewInt(-api.MinInt)
	m := new(big.Int).Add(n, half)
	m.Mod(m, new(big.Int).Lsh(half, 1))
	return m.Sub(m, half).Int64()
}

func means(n int64) *big.Int { return big.NewInt(meaning(big.NewInt(n))) }

// P1.1
func TestWrapFits(t *testing.T) {
	for _, n := range samples() {
		want := meaning(big.NewInt(n))
		if got := Wrap(n); got != want {
			t.Errorf("Wrap(%d) = %d, want %d", n, got, want)
		}
		if got := Fits(n); got != (n >= api.MinInt && n <= api.MaxInt) {
			t.Errorf("Fits(%d) = %v", n, got)
		}
	}
}

// P1.1
func TestWrapAtLimits(t *testing.T) {
	for _, c := range []struct{ n, want int64 }{
		{0, 0}, {-1, -1}, {api.MaxInt, api.MaxInt}, {api.MinInt, api.MinInt},
		{api.MaxInt + 1, api.MinInt}, {api.MinInt - 1, api.MaxInt},
		{math.MaxInt64, -1}, {math.MinInt64, 0}, {math.MinInt64 + 5, 5},
	} {
		if got := Wrap(c.n); got != c.want {
			t.Errorf("Wrap(%d) = %d, want %d", c.n, got, c.want)
		}
	}
}

// P1.1
func TestAddSubMulCmp(t *testing.T) {
	l := samples()
	for _, a := range l {
		for _, b := range l {
			x, y := means(a), means(b)
			if got, want := Add(a, b), meaning(new(big.Int).Add(x, y)); got != want {
				t.Fatalf("Add(%d, %d) = %d, want %d", a, b, got, want)
			}
			if got, want := Sub(a, b), meaning(new(big.Int).Sub(x, y)); got != want {
				t.Fatalf("Sub(%d, %d) = %d, want %d", a, b, got, want)
			}
			if got, want := Mul(a, b), meaning(new(big.Int).Mul(x, y)); got != want {
				t.Fatalf("Mul(%d, %d) = %d, want %d", a, b, got, want)
			}
			if got, want := Cmp(a, b), x.Cmp(y); got != want {
				t.Fatalf("Cmp(%d, %d) = %d, want %d", a, b, got, want)
			}
		}
	}
}

// P1.1: two numbers of one meaning are equal, and the meaning, not the number, is what is compared.
func TestCmpOfMeanings(t *testing.T) {
	for _, c := range []struct {
		a, b int64
		want int
	}{
		{3, 5, -1}, {5, 3, 1}, {5, 5, 0}, {api.MinInt, api.MaxInt, -1},
		{math.MinInt64, 0, 0}, {api.MaxInt + 1, 0, -1}, {math.MinInt64 + 1, 0, 1}, {math.MaxInt64, 0, -1},
	} {
		if got := Cmp(c.a, c.b); got != c.want {
			t.Errorf("Cmp(%d, %d) = %d, want %d", c.a, c.b, got, c.want)
		}
	}
}

// P1.2
func TestQuoRem(t *testing.T) {
	l := samples()
	for _, a := range l {
		for _, b := range l {
			q, eq := Quo(a, b)
			r, er := Rem(a, b)
			x, y := means(a), means(b)
			if y.Sign() == 0 {
				if q != 0 || eq != api.ErrZero || r != 0 || er != api.ErrZero {
					t.Fatalf("%d by %d: Quo %d %d, Rem %d %d, want ErrZero", a, b, q, eq, r, er)
				}
				continue
			}
			wantQ, wantR := new(big.Int).QuoRem(x, y, new(big.Int))
			if q != meaning(wantQ) || eq != api.OK {
				t.Fatalf("Quo(%d, %d) = %d, %d, want %d", a, b, q, eq, wantQ)
			}
			if r != wantR.Int64() || er != api.OK {
				t.Fatalf("Rem(%d, %d) = %d, %d, want %d", a, b, r, er, wantR)
			}
		}
	}
}

// P1.2
func TestQuoRemCases(t *testing.T) {
	for _, c := range []struct {
		a, b, q, r int64
		e          api.Errno
	}{
		{7, 2, 3, 1, api.OK}, {-7, 2, -3, -1, api.OK}, {7, -2, -3, 1, api.OK}, {-7, -2, 3, -1, api.OK},
		{6, 3, 2, 0, api.OK}, {0, -5, 0, 0, api.OK}, {1, api.MinInt, 0, 1, api.OK},
		{api.MinInt, -1, api.MinInt, 0, api.OK}, {api.MinInt, math.MaxInt64, api.MinInt, 0, api.OK},
		{api.MaxInt, -1, -api.MaxInt, 0, api.OK}, {math.MaxInt64, 2, 0, -1, api.OK},
		{5, 0, 0, 0, api.ErrZero}, {0, 0, 0, 0, api.ErrZero}, {5, math.MinInt64, 0, 0, api.ErrZero},
	} {
		if q, e := Quo(c.a, c.b); q != c.q || e != c.e {
			t.Errorf("Quo(%d, %d) = %d, %d, want %d, %d", c.a, c.b, q, e, c.q, c.e)
		}
		if r, e := Rem(c.a, c.b); r != c.r || e != c.e {
			t.Errorf("Rem(%d, %d) = %d, %d, want %d, %d", c.a, c.b, r, e, c.r, c.e)
		}
	}
}

// P1.3
func TestText(t *testing.T) {
	for _, n := range samples() {
		if got, want := Text(n), means(n).String(); got != want {
			t.Errorf("Text(%d) = %q, want %q", n, got, want)
		}
	}
	for _, c := range []struct {
		n    int64
		want string
	}{
		{0, "0"}, {-5, "-5"}, {10, "10"}, {-100, "-100"},
		{api.MaxInt, "4611686018427387903"}, {api.MinInt, "-4611686018427387904"},
		{api.MaxInt + 1, "-4611686018427387904"}, {math.MaxInt64, "-1"}, {math.MinInt64, "0"},
	} {
		if got := Text(c.n); got != c.want {
			t.Errorf("Text(%d) = %q, want %q", c.n, got, c.want)
		}
	}
}

// P1.3
func TestParse(t *testing.T) {
	for _, c := range []struct {
		s    string
		want int64
	}{
		{"0", 0}, {"1", 1}, {"-1", -1}, {"9", 9}, {"10", 10}, {"-10", -10}, {"1000000000000000000", 1000000000000000000},
		{"4611686018427387903", api.MaxInt}, {"-4611686018427387903", -api.MaxInt}, {"-4611686018427387904", api.MinInt},
	} {
		if got, e := Parse(c.s); got != c.want || e != api.OK {
			t.Errorf("Parse(%q) = %d, %d, want %d", c.s, got, e, c.want)
		}
	}
}

// P1.3
func TestParseOfNoNumber(t *testing.T) {
	long := strings.Repeat("9", 1000)
	for _, s := range []string{
		"", "-", "--1", "+1", "-0", "00", "-00", "01", "-01", "007", " 1", "1 ", "1\n", "1-", "1-2", "- 1",
		"1.0", "1e3", "0x1", "1_000", "a", "-a", "1a", "\x00", "1\x00", "\xff", "/", ":", "1/", "1:", "٣", "1٣", "−1",
		"0" + long, "-0" + long, long + "x", "4611686018427387904x", "-4611686018427387905 ",
	} {
		if got, e := Parse(s); got != 0 || e != api.ErrArg {
			t.Errorf("Parse(%q) = %d, %d, want ErrArg", s, got, e)
		}
	}
}

// P1.3: however long, also where the number taken modulo a power of two would be an integer.
func TestParseOfGreatNumber(t *testing.T) {
	long := strings.Repeat("9", 1000)
	l := []string{"4611686018427387904", "-4611686018427387905", "4611686018427387910", "46116860184273879030",
		"10000000000000000000", "-10000000000000000000", long, "-" + long, "1" + strings.Repeat("0", 500)}
	for shift := range 200 {
		p := new(big.Int).Lsh(big.NewInt(-api.MinInt), uint(shift))
		for d := range int64(20) {
			l = append(l, new(big.Int).Add(p, big.NewInt(d)).String())
			l = append(l, new(big.Int).Neg(new(big.Int).Add(p, big.NewInt(d+1))).String())
		}
	}
	for _, s := range l {
		if got, e := Parse(s); got != 0 || e != api.ErrLimit {
			t.Errorf("Parse(%q) = %d, %d, want ErrLimit", s, got, e)
		}
	}
}

// P1.4
func TestParseInvertsText(t *testing.T) {
	for _, n := range samples() {
		if got, e := Parse(Text(n)); got != Wrap(n) || e != api.OK {
			t.Errorf("Parse(Text(%d)) = %d, %d", n, got, e)
		}
	}
}

// P1.4
func TestSubUndoesAdd(t *testing.T) {
	l := samples()
	for _, a := range l {
		for _, b := range l {
			if got := Sub(Add(a, b), b); got != Wrap(a) {
				t.Fatalf("Sub(Add(%d, %d), %d) = %d", a, b, b, got)
			}
		}
	}
}

// P1.4
func TestMulDistributes(t *testing.T) {
	l := edges()
	for i := 0; i < len(l); i += 3 {
		for _, b := range l {
			for _, c := range l {
				a := l[i]
				if left, right := Mul(a, Add(b, c)), Add(Mul(a, b), Mul(a, c)); left != right {
					t.Fatalf("%d * (%d + %d): %d, and by parts %d", a, b, c, left, right)
				}
			}
		}
	}
}

// P1.4
func TestQuoAndRemMakeDividend(t *testing.T) {
	l := samples()
	for _, a := range l {
		for _, b := range l {
			if Wrap(b) == 0 {
				continue
			}
			q, _ := Quo(a, b)
			r, _ := Rem(a, b)
			if got := Add(Mul(q, b), r); got != Wrap(a) {
				t.Fatalf("%d / %d: %d times the divisor and %d make %d", a, b, q, r, got)
			}
		}
	}
}
