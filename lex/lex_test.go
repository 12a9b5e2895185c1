package lex

import (
	"math/rand"
	"regexp"
	"slices"
	"strings"
	"testing"
	"unicode/utf8"

	"cognate/api"
	"cognate/int63"
)

var keys = strings.Fields("data class instance from where end deriving def let rec and in case of if then else")

var marks = []string{"(", ")", ",", ";", "\\", "_", "=", "->", "|", ":"}

const opBytes = "!$%&*+./<=>?@^|~:-"

// forms says what each kind of token looks like; of TLow and TOp, keywords and marks are still among them.
var forms = []struct {
	kind int
	form *regexp.Regexp
}{
	{api.TLow, regexp.MustCompile(`^[a-z_][A-Za-z0-9_']*`)},
	{api.TUp, regexp.MustCompile(`^[A-Z][A-Za-z0-9_']*`)},
	{api.TInt, regexp.MustCompile(`^[0-9]+`)},
	{api.TText, regexp.MustCompile(`^"([^"\\\n]|\\[nt"\\])*"`)},
	{api.TOp, regexp.MustCompile(`^[!$%&*+./<=>?@^|~:\-]+`)},
	{api.TMark, regexp.MustCompile(`^[(),;\\]`)},
}

var blank = regexp.MustCompile(`^([ \t\n\r]|#[^\n]*)+`)

// model is the chapter taken literally, one token after the other.
func model(src string) ([]api.Token, api.Diag) {
	if len(src) > api.MaxSource {
		return nil, api.Diag{Code: api.ErrLimit}
	}
	for at := 0; at < len(src); {
		r, size := utf8.DecodeRuneInString(src[at:])
		if r == utf8.RuneError && size == 1 {
			return nil, api.Diag{Code: api.ErrUtf, At: at}
		}
		at += size
	}
	var l []api.Token
	at := 0
	for {
		at += len(blank.FindString(src[at:]))
		if at == len(src) {
			return append(l, api.Token{At: at}), api.Diag{}
		}
		t, size, e := modelToken(src[at:])
		if e != api.OK {
			return nil, api.Diag{Code: e, At: at}
		}
		t.At = at
		l = append(l, t)
		at += size
	}
}

func modelToken(src string) (api.Token, int, api.Errno) {
	for _, f := range forms {
		s := f.form.FindString(src)
		if s == "" {
			continue
		}
		t := api.Token{Kind: f.kind, Text: s}
		switch {
		case slices.Contains(keys, s):
			t.Kind = api.TKey
		case slices.Contains(marks, s):
			t.Kind = api.TMark
		case f.kind == api.TInt:
			t.Text = regexp.MustCompile(`^0+([0-9])`).ReplaceAllString(s, "$1")
			n, e := int63.Parse(t.Text)
			if e != api.OK {
				return api.Token{}, 0, api.ErrInt
			}
			t.N = n
		case f.kind == api.TText:
			t.Text = strings.NewReplacer(`\n`, "\n", `\t`, "\t", `\"`, `"`, `\\`, `\`).Replace(s[1 : len(s)-1])
		case len(s) > api.MaxName:
			return api.Token{}, 0, api.ErrLong
		}
		return t, len(s), api.OK
	}
	if src[0] == '"' {
		return api.Token{}, 0, api.ErrText
	}
	return api.Token{}, 0, api.ErrByte
}

// samples returns arbitrary sources made of pieces that touch every rule, always the same ones.
func samples() []string {
	pieces := append([]string{"x", "_", "__", "'", "Xy", "a'B_9", "0", "007", "12", "4611686018427387903", "4611686018427387904",
		"\"", "\"a\"", "\"\\n\"", "\\n", "\\\"", "\\\\", "\"é\r\t\"", "#", "# c", "#\"", "\n", "\r", "\t", " ", " ", "\n",
		"::", "==", "=>", "||", "&&", "-", "--", ":=", "é", "€", "\xff", "\xe2\x82", "[", "}", "`", "\x00", "\x7f", "\uFFFD", "datax", "End",
		strings.Repeat("x", 39), strings.Repeat("=", 39), strings.Repeat("0", 50)}, append(keys, marks...)...)
	var l []string
	r := rand.New(rand.NewSource(3))
	for n := range 6000 {
		var b strings.Builder
		for range r.Intn(12) {
			b.WriteString(pieces[r.Intn(len(pieces))])
			if n%3 == 0 {
				b.WriteByte(' ')
			}
		}
		l = append(l, b.String())
	}
	// Pieces that have no error, so that the long ones come through.
	good := append([]string{"x ", "_ ", "Xy", "12 ", " \"a\\n\"", "+ ", "::", "->", " # c\n", "\n", " ", "(", ")", "\\", ";", " 0", "\" \""}, keys...)
	for range 1000 {
		var b strings.Builder
		for range r.Intn(200) {
			b.WriteString(good[r.Intn(len(good))])
		}
		l = append(l, b.String())
	}
	return l
}

func sameTokens(t *testing.T, src string) {
	t.Helper()
	got, d := Scan(src)
	want, wantD := model(src)
	if d != wantD || !slices.Equal(got, want) {
		t.Fatalf("Scan(%q) = %v, %v, want %v, %v", src, got, d, want, wantD)
	}
}

// fails checks that Scan returns the error, and no tokens.
func fails(t *testing.T, src string, e api.Errno, at int) {
	t.Helper()
	l, d := Scan(src)
	if len(l) != 0 || d != (api.Diag{Code: e, At: at}) {
		t.Errorf("Scan(%.100q) = %d tokens, %v, want {%d %d}", src, len(l), d, e, at)
	}
}

// P3.1: the tokens of ordinary sources, written out.
func TestScan(t *testing.T) {
	low, up, op, key, mark, text := api.TLow, api.TUp, api.TOp, api.TKey, api.TMark, api.TText
	for _, c := range []struct {
		src  string
		want []api.Token
	}{
		{"", []api.Token{{At: 0}}},
		{" \t\r\n", []api.Token{{At: 4}}},
		{"# no token", []api.Token{{At: 10}}},
		{"#\n#\r\n", []api.Token{{At: 5}}},
		{"# a\rb\nc", []api.Token{{Kind: low, Text: "c", At: 6}, {At: 7}}},
		{"a#b\nc", []api.Token{{Kind: low, Text: "a"}, {Kind: low, Text: "c", At: 4}, {At: 5}}},
		{"+#b", []api.Token{{Kind: op, Text: "+"}, {At: 3}}},
		{"x'1 := \"a\\n\" # b", []api.Token{{Kind: low, Text: "x'1"}, {Kind: op, Text: ":=", At: 4}, {Kind: text, Text: "a\n", At: 7}, {At: 16}}},
		{"def id=\\x->x;", []api.Token{{Kind: key, Text: "def"}, {Kind: low, Text: "id", At: 4}, {Kind: mark, Text: "=", At: 6}, {Kind: mark, Text: "\\", At: 7},
			{Kind: low, Text: "x", At: 8}, {Kind: mark, Text: "->", At: 9}, {Kind: low, Text: "x", At: 11}, {Kind: mark, Text: ";", At: 12}, {At: 13}}},
		{"_ _a __ _' _1", []api.Token{{Kind: mark, Text: "_"}, {Kind: low, Text: "_a", At: 2}, {Kind: low, Text: "__", At: 5}, {Kind: low, Text: "_'", At: 8}, {Kind: low, Text: "_1", At: 11}, {At: 13}}},
		{"Case case cases case' _case", []api.Token{{Kind: up, Text: "Case"}, {Kind: key, Text: "case", At: 5}, {Kind: low, Text: "cases", At: 10}, {Kind: low, Text: "case'", At: 16}, {Kind: low, Text: "_case", At: 22}, {At: 27}}},
		{"= == | || : :: -> ->> - >", []api.Token{{Kind: mark, Text: "="}, {Kind: op, Text: "==", At: 2}, {Kind: mark, Text: "|", At: 5}, {Kind: op, Text: "||", At: 7}, {Kind: mark, Text: ":", At: 10},
			{Kind: op, Text: "::", At: 12}, {Kind: mark, Text: "->", At: 15}, {Kind: op, Text: "->>", At: 18}, {Kind: op, Text: "-", At: 22}, {Kind: op, Text: ">", At: 24}, {At: 25}}},
		{"=-> |- (,)", []api.Token{{Kind: op, Text: "=->"}, {Kind: op, Text: "|-", At: 4}, {Kind: mark, Text: "(", At: 7}, {Kind: mark, Text: ",", At: 8}, {Kind: mark, Text: ")", At: 9}, {At: 10}}},
		{"\\\\;;", []api.Token{{Kind: mark, Text: "\\"}, {Kind: mark, Text: "\\", At: 1}, {Kind: mark, Text: ";", At: 2}, {Kind: mark, Text: ";", At: 3}, {At: 4}}},
		{"A1'_b-1", []api.Token{{Kind: up, Text: "A1'_b"}, {Kind: op, Text: "-", At: 5}, {Kind: api.TInt, Text: "1", N: 1, At: 6}, {At: 7}}},
		{"12ab", []api.Token{{Kind: api.TInt, Text: "12", N: 12}, {Kind: low, Text: "ab", At: 2}, {At: 4}}},
		{"\"a\"\"\"b", []api.Token{{Kind: text, Text: "a"}, {Kind: text, Text: "", At: 3}, {Kind: low, Text: "b", At: 5}, {At: 6}}},
	} {
		if got, d := Scan(c.src); d != (api.Diag{}) || !slices.Equal(got, c.want) {
			t.Errorf("Scan(%q) = %v, %v, want %v", c.src, got, d, c.want)
		}
	}
}

// P3.1
func TestScanOfNumbers(t *testing.T) {
	for _, c := range []struct {
		src, text string
		n         int64
	}{
		{"0", "0", 0}, {"000", "0", 0}, {"7", "7", 7}, {"007", "7", 7}, {"100", "100", 100},
		{"4611686018427387903", "4611686018427387903", api.MaxInt},
		{strings.Repeat("0", 1000) + "4611686018427387903", "4611686018427387903", api.MaxInt},
	} {
		want := []api.Token{{Kind: api.TInt, Text: c.text, N: c.n}, {At: len(c.src)}}
		if got, d := Scan(c.src); d != (api.Diag{}) || !slices.Equal(got, want) {
			t.Errorf("Scan(%.30q) = %v, %v, want %v", c.src, got, d, want)
		}
	}
	for _, s := range []string{"4611686018427387904", "9223372036854775808", "18446744073709551617", strings.Repeat("9", 1000), "0004611686018427387904"} {
		fails(t, s, api.ErrInt, 0)
		fails(t, "a -"+s+" [", api.ErrInt, 3)
	}
}

// P3.1: of what stands in a string only the four escapes mean something else.
func TestScanOfStrings(t *testing.T) {
	for _, c := range []struct{ src, text string }{
		{`""`, ""}, {`"a b"`, "a b"}, {`"\n\t\"\\"`, "\n\t\"\\"}, {`"\\n"`, `\n`}, {`"\\\\"`, `\\`}, {`"\\\""`, `\"`},
		{"\"é€😀\uFFFD\"", "é€😀\uFFFD"}, {"\"a\tb\rc\x00\x7f\"", "a\tb\rc\x00\x7f"}, {`"# no comment"`, "# no comment"}, {`"'[]{}"`, "'[]{}"},
		{`"` + strings.Repeat("long ", 1000) + `"`, strings.Repeat("long ", 1000)},
	} {
		want := []api.Token{{Kind: api.TText, Text: c.text, At: 1}, {At: 1 + len(c.src)}}
		if got, d := Scan(" " + c.src); d != (api.Diag{}) || !slices.Equal(got, want) {
			t.Errorf("Scan(%q) = %v, %v, want %v", c.src, got, d, want)
		}
	}
	for _, s := range []string{`"`, `"a`, `"\`, `"\"`, `"a\\\"`, "\"\n\"", "\"a\\\n\"", `"\x"`, `"\ "`, `"\N"`, `"\'"`, `"\0"`, "\"\\\r\"", "\"\\é\"", "\"\\", "\"# a\n\""} {
		fails(t, s, api.ErrText, 0)
		fails(t, "a\n "+s+" [", api.ErrText, 3)
		fails(t, `"" `+s, api.ErrText, 3)
	}
}

// P3.1
func TestScanOfNoToken(t *testing.T) {
	for b := range 256 {
		s := string([]byte{byte(b)})
		switch {
		case b >= 128:
			fails(t, s, api.ErrUtf, 0)
		case strings.Contains("'[]{}`", s) || b < ' ' && !strings.Contains("\t\n\r", s) || b == 127:
			fails(t, s, api.ErrByte, 0)
			fails(t, "a "+s, api.ErrByte, 2)
			fails(t, "1"+s+"\"", api.ErrByte, 1)
		case b == '"':
			fails(t, s, api.ErrText, 0)
		default:
			if l, d := Scan(s); d != (api.Diag{}) || len(l) > 2 {
				t.Errorf("Scan(%q) = %v, %v", s, l, d)
			}
		}
	}
	for _, s := range []string{"é", "€", "😀", "\uFEFF", "\uFFFD", "\u00a0", "²", "Ω"} {
		fails(t, s, api.ErrByte, 0)
		fails(t, "x\n"+s, api.ErrByte, 2)
		fails(t, "x"+s, api.ErrByte, 1)
	}
	fails(t, "'"+strings.Repeat("a", 50), api.ErrByte, 0)
}

// P3.1
func TestScanOfLongNames(t *testing.T) {
	for _, s := range []string{"x", "_", "X", "=", "-", ":"} {
		long := strings.Repeat(s, api.MaxName)
		l, d := Scan(" " + long)
		if d != (api.Diag{}) || len(l) != 2 || l[0].Text != long || l[0].At != 1 {
			t.Errorf("Scan(%q) = %v, %v", long, l, d)
		}
		fails(t, "a "+long+s+" [", api.ErrLong, 2)
		fails(t, strings.Repeat(s, 5000), api.ErrLong, 0)
	}
	fails(t, "a'"+strings.Repeat("9", 39), api.ErrLong, 0)
	fails(t, "instance"+strings.Repeat("_", 33), api.ErrLong, 0)
	sameTokens(t, strings.Repeat("(", 50)+strings.Repeat(";", 50)+strings.Repeat("\\", 50))
}

// P3.1: also behind other errors, and also within comments and strings.
func TestScanOfNoUtf(t *testing.T) {
	for _, s := range []string{
		"\x80", "\xbf", "\xc0\x80", "\xc1\xbf", "\xc3", "\xc3(", "\xe0\x80\x80", "\xe0\x9f\xbf", "\xe2\x82", "\xe2\x82(", "\xed\xa0\x80", "\xed\xbf\xbf",
		"\xef\xbf", "\xf0\x80\x80\x80", "\xf0\x8f\xbf\xbf", "\xf0\x9f\x98", "\xf4\x90\x80\x80", "\xf5\x80\x80\x80", "\xf8\x88\x80\x80\x80", "\xfe", "\xff",
	} {
		fails(t, s, api.ErrUtf, 0)
		fails(t, "[ "+s+"\xff", api.ErrUtf, 2)
		fails(t, "\"é"+s+"\"", api.ErrUtf, 3)
		fails(t, "# \uFFFD"+s, api.ErrUtf, 5)
		fails(t, "99999999999999999999 \"\n"+s, api.ErrUtf, 23)
	}
	sameTokens(t, "\"\u0080\u07ff\u0800\ud7ff\ue000\uFFFD\uffff\U00010000\U0010ffff\" # é\uFFFD\uFFFD")
}

// P3.1
func TestScanOfLongSources(t *testing.T) {
	most := strings.Repeat("a ", api.MaxSource/2)
	l, d := Scan(most)
	if d != (api.Diag{}) || len(l) != api.MaxSource/2+1 || l[len(l)-1] != (api.Token{At: api.MaxSource}) {
		t.Errorf("Scan of %d bytes: %d tokens, %v", len(most), len(l), d)
	}
	for _, s := range []string{most + " ", most + "\xff", "\xff" + most, "[" + most, strings.Repeat("\n", 100000)} {
		fails(t, s, api.ErrLimit, 0)
	}
	sameTokens(t, "\""+strings.Repeat("#", api.MaxSource-2)+"\"")
	sameTokens(t, "#"+strings.Repeat("\"", api.MaxSource-1))
}

// P3.1: the error farthest to the left is returned.
func TestScanOfSeveralErrors(t *testing.T) {
	long := strings.Repeat("x", 41)
	for _, c := range []struct {
		src string
		e   api.Errno
	}{
		{"a [ " + long + " \"", api.ErrByte}, {"a " + long + " [ 9999999999999999999", api.ErrLong},
		{"a 9999999999999999999 \" [", api.ErrInt}, {"a \" [ " + long, api.ErrText},
	} {
		fails(t, c.src, c.e, 2)
	}
	// The rest of a comment, or of a string, is no source of errors.
	sameTokens(t, "a # [ "+long+" \"\n\"[ 9999999999999999999\"")
}

// P3.1
func TestScanAgainstModel(t *testing.T) {
	for _, s := range samples() {
		sameTokens(t, s)
	}
	for a := range 256 {
		for b := range 256 {
			sameTokens(t, string([]byte{byte(a), byte(b)}))
			if a < 128 && b < 128 {
				sameTokens(t, string([]byte{'"', '\\', byte(a), byte(b), '"'}))
				sameTokens(t, string([]byte{byte(a), byte(b), 'a', byte(a)}))
			}
		}
	}
}

// kinds returns, by the exported functions, which kinds s alone is of.
func kinds(s string) []int {
	var l []int
	for _, k := range []struct {
		kind int
		is   func(string) bool
	}{{api.TLow, IsLow}, {api.TUp, IsUp}, {api.TOp, IsOp}, {api.TKey, Key}, {api.TMark, Mark}} {
		if k.is(s) {
			l = append(l, k.kind)
		}
	}
	return l
}

// P3.2
func TestKinds(t *testing.T) {
	for kind, l := range map[int][]string{
		api.TKey:  keys,
		api.TMark: marks,
		api.TLow:  {"a", "z", "_a", "__", "_'", "_0", "x'1", "keys", "ends", "end'", "end_", "eNd", "aB", strings.Repeat("x", 40), strings.Repeat("_", 40)},
		api.TUp:   {"A", "Z", "A'", "A_", "Ab9", "End", "DATA", strings.Repeat("X", 40)},
		api.TOp: {"+", "-", "==", "::", "||", ":=", "->>", "-->", "=>", "<-", "!", "$", "%", "&", "*", ".", "/", "<", ">", "?", "@", "^", "~",
			opBytes, strings.Repeat("=", 40)},
	} {
		for _, s := range l {
			if got := kinds(s); !slices.Equal(got, []int{kind}) {
				t.Errorf("%q is of the kinds %d, want %d", s, got, kind)
			}
		}
	}
	for _, s := range []string{"", " ", "a ", " a", "a\n", "a b", "end ", " end", "= ", "+ +", "+a", "a+", "()", "\\x", ";;", "'", "'a", "1", "1a", "-1", "\"a\"", "\"", "#", "a#", "+#", "#a",
		"é", "aé", "\xff", "a\xff", "\x00", "a\x00", "[", "A.b", strings.Repeat("x", 41), strings.Repeat("X", 41), strings.Repeat("=", 41), strings.Repeat("_", 41), strings.Repeat("a", 100000)} {
		if got := kinds(s); len(got) != 0 {
			t.Errorf("%.50q is of the kinds %d, want none", s, got)
		}
	}
}

// P3.2: s is of a kind if it is the only token of a source.
func TestKindsAreThoseOfTokens(t *testing.T) {
	check := func(s string) {
		var want []int
		l, _ := Scan(s)
		if len(l) == 2 && l[0].Text == s && l[0].Kind != api.TInt && l[0].Kind != api.TText {
			want = []int{l[0].Kind}
		}
		if got := kinds(s); !slices.Equal(got, want) {
			t.Fatalf("%q is of the kinds %d, want %d", s, got, want)
		}
	}
	for a := range 256 {
		check(string([]byte{byte(a)}))
		for b := range 256 {
			check(string([]byte{byte(a), byte(b)}))
		}
	}
	for _, s := range samples() {
		check(s)
	}
}

// P3.2
func TestQuote(t *testing.T) {
	for _, c := range []struct{ s, want string }{
		{"", `""`}, {"a b", `"a b"`}, {"a\"\t", `"a\"\t"`}, {"\n\t\"\\", `"\n\t\"\\"`}, {`\n`, `"\\n"`}, {"\r\x00'#", "\"\r\x00'#\""}, {"é€", `"é€"`}, {"a\xff\xe2\x82", "\"a\xff\xe2\x82\""},
	} {
		if got := Quote(c.s); got != c.want {
			t.Errorf("Quote(%q) = %q, want %q", c.s, got, c.want)
		}
	}
	for b := range 256 {
		s := string([]byte{byte(b)})
		want := `"` + s + `"`
		switch b {
		case '\n':
			want = `"\n"`
		case '\t':
			want = `"\t"`
		case '"', '\\':
			want = `"\` + s + `"`
		}
		if got := Quote(s); got != want {
			t.Errorf("Quote(%q) = %q, want %q", s, got, want)
		}
	}
}

// P3.2
func TestJoin(t *testing.T) {
	for _, c := range []struct {
		l    []api.Token
		want string
	}{
		{nil, ""}, {[]api.Token{{}}, ""}, {[]api.Token{{At: 7}, {}}, ""},
		{[]api.Token{{Kind: api.TLow, Text: "x"}}, "x"},
		{[]api.Token{{Kind: api.TLow, Text: "x", At: 9}, {Kind: api.TOp, Text: "+", At: 3}, {At: 1}}, "x +"},
		{[]api.Token{{Text: "left out"}, {Kind: api.TKey, Text: "end"}, {}, {}, {Kind: api.TMark, Text: ";"}, {}}, "end ;"},
		{[]api.Token{{Kind: api.TText, Text: ""}, {Kind: api.TText, Text: "a\n\"\\\tb "}}, `"" "a\n\"\\\tb "`},
		// The number counts, not the text.
		{[]api.Token{{Kind: api.TInt, Text: "7", N: 8}, {Kind: api.TInt}, {Kind: api.TInt, N: api.MaxInt}}, "8 0 4611686018427387903"},
		{[]api.Token{{Kind: api.TUp, Text: "A"}, {Kind: api.TMark, Text: "("}, {Kind: api.TMark, Text: ")"}}, "A ( )"},
	} {
		if got := Join(c.l); got != c.want {
			t.Errorf("Join(%v) = %q, want %q", c.l, got, c.want)
		}
	}
	// Tokens that no source has: nothing is promised but an end.
	Join([]api.Token{{Kind: -1}, {Kind: 99, Text: "\xff"}, {Kind: api.TInt, N: -5}, {Kind: api.TInt, N: -1 << 63}, {Kind: api.TText, Text: "\xff"}})
}

// withoutAt returns the tokens without the TEnd, and without the places where they stood.
func withoutAt(l []api.Token) []api.Token {
	l = slices.Clone(l[:len(l)-1])
	for i := range l {
		l[i].At = 0
	}
	return l
}

// P3.3
func TestScanOfJoin(t *testing.T) {
	again := 0
	for _, s := range samples() {
		l, d := Scan(s)
		if d != (api.Diag{}) {
			continue
		}
		again++
		joined := Join(l)
		got, d := Scan(joined)
		if d != (api.Diag{}) || !slices.Equal(withoutAt(got), withoutAt(l)) {
			t.Fatalf("%q: tokens %v, joined %q, tokens %v, %v", s, l, joined, got, d)
		}
		if got[len(got)-1] != (api.Token{At: len(joined)}) {
			t.Fatalf("%q ends by %v", joined, got[len(got)-1])
		}
	}
	if again < 1000 {
		t.Errorf("only %d sources without an error", again)
	}
}

// P3.3
func TestQuotedIsScannedBack(t *testing.T) {
	r := rand.New(rand.NewSource(5))
	runes := []rune("ab\"\\\n\t\r#né€\uFFFD\x00'")
	for range 3000 {
		b := make([]rune, r.Intn(20))
		for i := range b {
			b[i] = runes[r.Intn(len(runes))]
		}
		want := []api.Token{{Kind: api.TText, Text: string(b)}, {At: len(Quote(string(b)))}}
		if got, d := Scan(Quote(string(b))); d != (api.Diag{}) || !slices.Equal(got, want) {
			t.Fatalf("Scan(Quote(%q)) = %v, %v", string(b), got, d)
		}
	}
}

// P3.3
func TestScanOfTwoSources(t *testing.T) {
	l := append([]string{"", "a", "+", "# c", "\"a\" #", "end", "_", "1", "-", "\r"}, samples()...)
	for i := range len(l) {
		for _, j := range []int{i % 10, i, (i*7 + 3) % len(l)} {
			a, d := Scan(l[i])
			b, e := Scan(l[j])
			if d != (api.Diag{}) || e != (api.Diag{}) {
				continue
			}
			got, f := Scan(l[i] + "\n" + l[j])
			if f != (api.Diag{}) || !slices.Equal(withoutAt(got), append(withoutAt(a), withoutAt(b)...)) {
				t.Fatalf("%q and %q: %v, %v", l[i], l[j], got, f)
			}
			for k, t2 := range got[len(a)-1:] {
				if t2.At != b[k].At+len(l[i])+1 {
					t.Fatalf("%q and %q: %v", l[i], l[j], got)
				}
			}
		}
	}
}
