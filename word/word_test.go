package word

import (
	"encoding/binary"
	"math"
	"math/rand"
	"slices"
	"strings"
	"testing"

	"cognate/api"
	"cognate/int63"
)

// samples returns words around every power of two and some arbitrary ones of all lengths, always the same ones.
func samples() []uint64 {
	var l []uint64
	for i := range 64 {
		p := uint64(1) << i
		for d := range uint64(4) {
			l = append(l, p+d, p-d, ^(p + d))
		}
	}
	r := rand.New(rand.NewSource(2))
	for range 2000 {
		l = append(l, r.Uint64()>>r.Intn(64))
	}
	return l
}

// texts returns strings of all lengths up to a few words: of zero bytes, of 255s, and of arbitrary bytes.
func texts() []string {
	var l []string
	r := rand.New(rand.NewSource(3))
	for n := range 35 {
		b := make([]byte, n)
		for i := range b {
			b[i] = byte(r.Intn(256))
		}
		l = append(l, string(b), strings.Repeat("\x00", n), strings.Repeat("\xff", n), strings.Repeat("é", n), string(b)+"\x00")
	}
	return append(l, strings.Repeat("long text", 10000))
}

// P2.1
func TestInt(t *testing.T) {
	for _, c := range []struct {
		n    int64
		want uint64
	}{
		{0, 1}, {1, 3}, {5, 11}, {-1, math.MaxUint64}, {-5, math.MaxUint64 - 8},
		{api.MaxInt, 1<<63 - 1}, {api.MinInt, 1<<63 + 1},
		// Numbers that are no integers have the word of their meaning.
		{api.MaxInt + 1, 1<<63 + 1}, {api.MinInt - 1, 1<<63 - 1}, {math.MaxInt64, math.MaxUint64}, {math.MinInt64, 1}, {math.MinInt64 + 5, 11},
	} {
		if got := Int(c.n); got != c.want {
			t.Errorf("Int(%d) = %d, want %d", c.n, got, c.want)
		}
	}
	for _, w := range samples() {
		n := int64(w)
		if got := Int(n); got&1 != 1 || int64(got)>>1 != int63.Wrap(n) {
			t.Errorf("Int(%d) = %d", n, got)
		}
	}
}

// P2.1
func TestIsIntToInt(t *testing.T) {
	for _, c := range []struct {
		w    uint64
		want int64
	}{
		{1, 0}, {3, 1}, {11, 5}, {math.MaxUint64, -1}, {math.MaxUint64 - 8, -5}, {1<<63 - 1, api.MaxInt}, {1<<63 + 1, api.MinInt},
	} {
		if got, ok := ToInt(c.w); got != c.want || !ok || !IsInt(c.w) {
			t.Errorf("ToInt(%d) = %d, %v, want %d; IsInt %v", c.w, got, ok, c.want, IsInt(c.w))
		}
	}
	for _, w := range []uint64{0, 2, 10, 1 << 33, 1 << 62, 1 << 63, math.MaxUint64 - 1} {
		if got, ok := ToInt(w); got != 0 || ok || IsInt(w) {
			t.Errorf("ToInt(%d) = %d, %v, IsInt %v, want none", w, got, ok, IsInt(w))
		}
	}
}

// P2.1
func TestPtr(t *testing.T) {
	for _, at := range []int{0, 1, 5, 255, 1<<31 - 1, 1 << 31, 1<<32 - 1, 1 << 32} {
		if got, e := Ptr(at); got != 2*uint64(at) || e != api.OK {
			t.Errorf("Ptr(%d) = %d, %d", at, got, e)
		}
	}
	for _, at := range []int{-1, -2, math.MinInt, math.MinInt + 5, -1 << 32, 1<<32 + 1, 1 << 33, 1 << 62, math.MaxInt} {
		if got, e := Ptr(at); got != 0 || e != api.ErrArg {
			t.Errorf("Ptr(%d) = %d, %d, want ErrArg", at, got, e)
		}
	}
}

// P2.1
func TestAt(t *testing.T) {
	for _, w := range []uint64{0, 2, 10, 1 << 32, 1<<33 - 2, 1 << 33} {
		if got, ok := At(w); uint64(got)*2 != w || !ok {
			t.Errorf("At(%d) = %d, %v", w, got, ok)
		}
	}
	for _, w := range []uint64{1, 3, 11, 1<<33 - 1, 1<<33 + 1, 1<<33 + 2, 1 << 34, 1 << 63, 1<<63 + 10, math.MaxUint64 - 1, math.MaxUint64} {
		if got, ok := At(w); got != 0 || ok {
			t.Errorf("At(%d) = %d, %v, want none", w, got, ok)
		}
	}
}

// P2.2
func TestKinds(t *testing.T) {
	if con != api.HCon || clos != api.HClos || ref != api.HRef || text != api.HText {
		t.Errorf("kinds: %d %d %d %d", con, clos, ref, text)
	}
}

// P2.2
func TestHead(t *testing.T) {
	if got, e := Head(api.HRef, 0, 1); got != 1<<20+5 || e != api.OK {
		t.Errorf("Head of a cell: %d, %d", got, e)
	}
	for kind := api.HCon; kind <= api.HText; kind++ {
		for _, tag := range []int{0, 1, 5, 255, 256, 65534, 65535} {
			for _, size := range []int{0, 1, 60, 65536, api.MaxHeap - 1, api.MaxHeap} {
				want := 1 + 2*uint64(kind) + 16*uint64(tag) + 1<<20*uint64(size)
				if got, e := Head(kind, tag, size); got != want || e != api.OK {
					t.Errorf("Head(%d, %d, %d) = %d, %d, want %d", kind, tag, size, got, e, want)
				}
				if k, g, s, ok := Open(want); k != kind || g != tag || s != size || !ok {
					t.Errorf("Open(%d) = %d, %d, %d, %v, want %d, %d, %d", want, k, g, s, ok, kind, tag, size)
				}
			}
		}
	}
}

// P2.2
func TestHeadOfNoObject(t *testing.T) {
	for _, c := range [][3]int{
		{-1, 0, 0}, {4, 0, 0}, {7, 0, 0}, {8, 0, 0}, {math.MaxInt, 0, 0}, {math.MinInt, 0, 0}, {1 << 62, 0, 0},
		{0, -1, 0}, {0, 65536, 0}, {0, 65537, 0}, {0, 1 << 20, 0}, {0, math.MaxInt, 0}, {0, math.MinInt, 0}, {0, 1 << 60, 0},
		{0, 0, -1}, {0, 0, api.MaxHeap + 1}, {0, 0, 1 << 44}, {0, 0, 1 << 62}, {0, 0, math.MaxInt}, {0, 0, math.MinInt},
		{3, 65536, api.MaxHeap}, {3, 65535, api.MaxHeap + 1}, {4, 65535, api.MaxHeap}, {-1, -1, -1},
	} {
		if got, e := Head(c[0], c[1], c[2]); got != 0 || e != api.ErrArg {
			t.Errorf("Head(%d, %d, %d) = %d, %d, want ErrArg", c[0], c[1], c[2], got, e)
		}
	}
}

// P2.2
func TestOpenOfNoHeader(t *testing.T) {
	for _, w := range []uint64{
		0, 2, 1 << 20, 1<<20 + 4, math.MaxUint64, math.MaxUint64 - 1, 1<<63 + 1,
		1 + 2*4, 1 + 2*5, 1 + 2*6, 1 + 2*7, // no such kind
		1 + (api.MaxHeap+1)<<20, 1 + api.MaxHeap<<21, // too many words
		api.MaxHeap << 20, 2*3 + 16*65535, // even
	} {
		if k, g, s, ok := Open(w); k != 0 || g != 0 || s != 0 || ok {
			t.Errorf("Open(%d) = %d, %d, %d, %v, want none", w, k, g, s, ok)
		}
	}
}

// P2.2
func TestOpenOfAnyWord(t *testing.T) {
	for _, w := range samples() {
		kind, tag, size := int(w/2%8), int(w/16%65536), int(w/(1<<20))
		want := w%2 == 1 && kind < 4 && size <= api.MaxHeap
		if !want {
			kind, tag, size = 0, 0, 0
		}
		if k, g, s, ok := Open(w); k != kind || g != tag || s != size || ok != want {
			t.Errorf("Open(%d) = %d, %d, %d, %v, want %d, %d, %d, %v", w, k, g, s, ok, kind, tag, size, want)
		}
	}
}

// P2.3
func TestPack(t *testing.T) {
	for _, c := range []struct {
		s    string
		want []uint64
	}{
		{"", nil}, {"a", []uint64{97}}, {"ab", []uint64{25185}}, {"\x00", []uint64{0}}, {"\xff", []uint64{255}},
		{"\x00\x00\x00\x00\x00\x00\x00\x80", []uint64{1 << 63}}, {"\x01\x02\x03\x04\x05\x06\x07\x08", []uint64{0x0807060504030201}},
		{"\x01\x02\x03\x04\x05\x06\x07\x08\x09", []uint64{0x0807060504030201, 9}}, {"\x00\x00\x00\x00\x00\x00\x00\x00\x00", []uint64{0, 0}},
		{"é", []uint64{0xa9c3}},
	} {
		if got := Pack(c.s); !slices.Equal(got, c.want) {
			t.Errorf("Pack(%q) = %d, want %d", c.s, got, c.want)
		}
	}
	for _, s := range texts() {
		var want []uint64
		for b := []byte(s); len(b) > 0; b = b[8:] {
			for len(b) < 8 {
				b = append(b, 0)
			}
			want = append(want, binary.LittleEndian.Uint64(b))
		}
		if got := Pack(s); !slices.Equal(got, want) {
			t.Errorf("Pack(%.40q) = %d, want %d", s, got, want)
		}
	}
}

// P2.3
func TestUnpack(t *testing.T) {
	for _, c := range []struct {
		l []uint64
		s string
	}{
		{nil, ""}, {[]uint64{}, ""}, {[]uint64{25185}, "ab"}, {[]uint64{25185}, "ab\x00"}, {[]uint64{25185}, "ab\x00\x00\x00\x00\x00\x00"},
		{[]uint64{0}, "\x00"}, {[]uint64{math.MaxUint64}, "\xff\xff\xff\xff\xff\xff\xff\xff"}, {[]uint64{0x0807060504030201, 9}, "\x01\x02\x03\x04\x05\x06\x07\x08\x09"},
	} {
		if got, e := Unpack(c.l, len(c.s)); got != c.s || e != api.OK {
			t.Errorf("Unpack(%d, %d) = %q, %d, want %q", c.l, len(c.s), got, e, c.s)
		}
	}
}

// P2.3
func TestUnpackOfWrongLength(t *testing.T) {
	for size := range 4 {
		l := make([]uint64, size)
		for n := -20; n < 50; n++ {
			s, e := Unpack(l, n)
			if n >= 0 && (n+7)/8 == size {
				if s != strings.Repeat("\x00", n) || e != api.OK {
					t.Errorf("Unpack of %d words, %d bytes: %q, %d", size, n, s, e)
				}
			} else if s != "" || e != api.ErrArg {
				t.Errorf("Unpack of %d words, %d bytes: %q, %d, want ErrArg", size, n, s, e)
			}
		}
		for _, n := range []int{math.MaxInt, math.MaxInt - 1, math.MaxInt - 7, 1 << 62, 1 << 61, 1 << 32, math.MinInt, math.MinInt + 1, math.MinInt + 8} {
			if s, e := Unpack(l, n); s != "" || e != api.ErrArg {
				t.Errorf("Unpack of %d words, %d bytes: %q, %d, want ErrArg", size, n, s, e)
			}
		}
	}
}

// P2.3: each bit behind the string must be 0, and each bit of the string counts.
func TestUnpackOfPadding(t *testing.T) {
	for n := 1; n <= 24; n++ {
		whole := strings.Repeat("x", n)
		for bit := range (n + 7) / 8 * 64 {
			l := Pack(whole)
			l[bit/64] ^= 1 << (bit % 64)
			s, e := Unpack(l, n)
			if bit >= n*8 {
				if s != "" || e != api.ErrArg {
					t.Errorf("bit %d behind %d bytes: %q, %d, want ErrArg", bit, n, s, e)
				}
				continue
			}
			want := []byte(whole)
			want[bit/8] ^= 1 << (bit % 8)
			if s != string(want) || e != api.OK {
				t.Errorf("bit %d of %d bytes: %q, %d, want %q", bit, n, s, e, want)
			}
		}
	}
}

// P2.3, and DOC.md's rule that arguments are not modified.
func TestUnpackLeavesItsWords(t *testing.T) {
	for _, n := range []int{9, 8, -1} {
		l := []uint64{0x0807060504030201, 9}
		Unpack(l, n)
		if !slices.Equal(l, []uint64{0x0807060504030201, 9}) {
			t.Errorf("Unpack to %d bytes has changed its words to %d", n, l)
		}
	}
}

// P2.4
func TestToIntInvertsInt(t *testing.T) {
	for _, w := range samples() {
		n := int64(w)
		if got, ok := ToInt(Int(n)); got != int63.Wrap(n) || !ok {
			t.Errorf("ToInt(Int(%d)) = %d, %v", n, got, ok)
		}
		if got, ok := ToInt(w); ok && (Int(got) != w || !int63.Fits(got)) {
			t.Errorf("ToInt(%d) = %d, whose word is %d", w, got, Int(got))
		}
	}
}

// P2.4
func TestAtInvertsPtr(t *testing.T) {
	for _, w := range samples() {
		at := int(w)
		if p, e := Ptr(at); e == api.OK {
			if got, ok := At(p); got != at || !ok {
				t.Errorf("At(Ptr(%d)) = %d, %v", at, got, ok)
			}
		}
		if got, ok := At(w); ok {
			if p, e := Ptr(got); p != w || e != api.OK {
				t.Errorf("Ptr(At(%d)) = %d, %d", w, p, e)
			}
		}
	}
}

// P2.4
func TestOpenInvertsHead(t *testing.T) {
	r := rand.New(rand.NewSource(4))
	for range 2000 {
		kind, tag, size := r.Intn(4), r.Intn(65536), r.Intn(api.MaxHeap+1)
		h, e := Head(kind, tag, size)
		if k, g, s, ok := Open(h); e != api.OK || k != kind || g != tag || s != size || !ok {
			t.Errorf("Open(Head(%d, %d, %d)) = %d, %d, %d, %v", kind, tag, size, k, g, s, ok)
		}
	}
}

// P2.4
func TestUnpackInvertsPack(t *testing.T) {
	for _, s := range texts() {
		if got, e := Unpack(Pack(s), len(s)); got != s || e != api.OK {
			t.Errorf("Unpack(Pack(%.40q)) = %.40q, %d", s, got, e)
		}
	}
}

// P2.4
func TestAddressesAreNeitherIntegersNorHeaders(t *testing.T) {
	for _, w := range samples() {
		at := int(w % (1<<32 + 1))
		p, e := Ptr(at)
		if e != api.OK {
			t.Fatalf("Ptr(%d): %d", at, e)
		}
		if _, ok := ToInt(p); ok || IsInt(p) {
			t.Errorf("the address %d is an integer", at)
		}
		if _, _, _, ok := Open(p); ok {
			t.Errorf("the address %d is a header", at)
		}
		if _, ok := At(Int(int64(w))); ok {
			t.Errorf("the integer %d is an address", int64(w))
		}
		if h, e := Head(int(w%4), int(w%65536), int(w%api.MaxHeap)); e == api.OK {
			if _, ok := At(h); ok {
				t.Errorf("the header %d is an address", h)
			}
		}
	}
}
