package parse

import (
	"math/rand"
	"slices"
	"strings"
	"testing"

	"cognate/api"
)

// grammar is the chapter's, with a rule a line: what a name can be. What has no rule is a token.
const grammar = `
prog
prog decl prog
decl data Up lows = cons derivs ;
decl class Up Low froms where items end ;
decl instance Up atype contexts where defs end ;
decl def name = exp ;
lows
lows Low lows
cons con
cons con | cons
con Up atypes
atypes
atypes atype atypes
derivs
derivs deriving ( ups )
ups Up
ups Up , ups
froms
froms from ups
items
items name : type ; items
items def name = exp ; items
contexts
contexts from preds
preds Up Low
preds Up Low , preds
defs
defs def name = exp ; defs
name Low
name ( Op )
type btype
type btype -> type
btype Up atypes
btype atype
atype Up
atype Low
atype ( )
atype ( type )
exp operand
exp operand Op exp
operand \ Low lows -> exp
operand let rec binds in exp
operand let binds in exp
operand if exp then exp else exp
operand atoms
binds name = exp
binds name = exp and binds
atoms atom
atoms atom atoms
atom Low
atom Up
atom Int
atom Text
atom ( )
atom ( Op )
atom ( exp )
atom ( exp : type )
atom case exp of alts end
alts alt
alts alt | alts
alt pat -> exp
pat Up apats
pat apat
apats
apats apat apats
apat Low
apat _
apat Up
apat Int
apat ( )
apat ( pat )
`

// terminals are all tokens, of each kind one.
var terminals = strings.Fields("Low Up Int Text Op ( ) , ; \\ _ = -> | : data class instance from where end deriving def let rec and in case of if then else")

// written is how a source of this test writes a token.
func written(terminal string) string {
	switch terminal {
	case "Low":
		return "x"
	case "Up":
		return "X"
	case "Int":
		return "1"
	case "Text":
		return `"("`
	case "Op":
		return "+"
	}
	return terminal
}

// item is a rule of which so much has been recognized since a token.
type item struct{ rule, dot, from int }

// recognizer tells which tokens a grammar allows, as Earley does: for each number of tokens read, it has the items that are possible.
type recognizer struct {
	start    string
	rules    [][]string
	nullable map[string]bool
	sets     [][]item
}

func newRecognizer(start string) *recognizer {
	g := &recognizer{start: start, nullable: map[string]bool{}}
	for _, line := range strings.Split(strings.TrimSpace(grammar), "\n") {
		g.rules = append(g.rules, strings.Fields(line))
		if rule := strings.Fields(line); len(rule) == 1 {
			g.nullable[rule[0]] = true
		}
	}
	var set []item
	for i, rule := range g.rules {
		if rule[0] == start {
			set = append(set, item{i, 1, 0})
		}
	}
	g.sets = [][]item{g.closed(set)}
	return g
}

// next is what stands behind what an item has recognized, or nothing.
func (g *recognizer) next(x item) string {
	if rule := g.rules[x.rule]; x.dot < len(rule) {
		return rule[x.dot]
	}
	return ""
}

// closed adds to the items after the last token those that follow from them.
func (g *recognizer) closed(set []item) []item {
	here := len(g.sets)
	seen := map[item]bool{}
	var all []item
	add := func(x item) {
		if !seen[x] {
			seen[x] = true
			all = append(all, x)
		}
	}
	for _, x := range set {
		add(x)
	}
	for i := 0; i < len(all); i++ {
		x := all[i]
		next := g.next(x)
		if next == "" && x.from < here {
			for _, y := range g.sets[x.from] {
				if g.next(y) == g.rules[x.rule][0] {
					add(item{y.rule, y.dot + 1, y.from})
				}
			}
		}
		for j, rule := range g.rules {
			if rule[0] == next {
				add(item{j, 1, here})
			}
		}
		if g.nullable[next] {
			add(item{x.rule, x.dot + 1, x.from})
		}
	}
	return all
}

// read reads a token, and reports whether the grammar allows it.
func (g *recognizer) read(token string) bool {
	var set []item
	for _, x := range g.sets[len(g.sets)-1] {
		if g.next(x) == token {
			set = append(set, item{x.rule, x.dot + 1, x.from})
		}
	}
	if len(set) == 0 {
		return false
	}
	g.sets = append(g.sets, g.closed(set))
	return true
}

func (g *recognizer) unread() { g.sets = g.sets[:len(g.sets)-1] }

// whole reports whether the tokens that have been read can be all.
func (g *recognizer) whole() bool {
	return slices.ContainsFunc(g.sets[len(g.sets)-1], func(x item) bool {
		return x.from == 0 && g.rules[x.rule][0] == g.start && g.next(x) == ""
	})
}

// faces are the starts of the grammar, with the functions' errors.
var faces = map[string]func(string) api.Diag{
	"prog": func(src string) api.Diag { _, d := Prog(src); return d },
	"exp":  func(src string) api.Diag { _, d := Exp(src); return d },
	"type": func(src string) api.Diag { _, d := Type(src); return d },
}

// P6.1 and P6.2: after every short beginning that the grammar allows, every token, and the end.
func TestAllShortSources(t *testing.T) {
	for _, c := range []struct {
		start, before string
		more          int
	}{
		{"exp", "", 4}, {"exp", "case Low of", 4}, {"exp", "let Low =", 3}, {"exp", "( Low", 4}, {"exp", "if Low", 3}, {"exp", "( Low :", 4}, {"exp", "case Low of Up -> Low", 3}, {"exp", "Low Op", 3}, {"exp", "let rec", 4}, {"exp", "\\ Low", 3},
		{"type", "", 5}, {"type", "Up ( Low", 4},
		{"prog", "", 4}, {"prog", "data Up", 5}, {"prog", "data Up = Up", 5}, {"prog", "data Up = Up deriving", 6}, {"prog", "class Up", 5}, {"prog", "class Up Low from Up", 5}, {"prog", "class Up Low where", 5},
		{"prog", "class Up Low where Low : Low ;", 4}, {"prog", "class Up Low where def Low = Low", 4}, {"prog", "instance Up", 5}, {"prog", "instance Up Up from", 5}, {"prog", "instance Up Up where", 5}, {"prog", "instance Up Up where def Low = Low ;", 3},
		{"prog", "def", 5}, {"prog", "def Low = Low ;", 4},
	} {
		g := newRecognizer(c.start)
		src := ""
		for _, token := range strings.Fields(c.before) {
			if !g.read(token) {
				t.Fatalf("%q begins nothing", c.before)
			}
			src += written(token) + " "
		}
		everyShort(t, g, src, c.more)
	}
}

// everyShort checks all sources that begin as g has read, with up to so many tokens behind.
func everyShort(t *testing.T, g *recognizer, src string, more int) {
	parse := faces[g.start]
	want := api.Diag{Code: api.ErrSyntax, At: len(src)}
	if g.whole() {
		want = api.Diag{}
	}
	if got := parse(src); got != want {
		t.Errorf("%s of %q: %v, want %v", g.start, src, got, want)
	}
	for _, token := range terminals {
		longer := src + written(token) + " "
		if !g.read(token) {
			if got := parse(longer); got != (api.Diag{Code: api.ErrSyntax, At: len(src)}) {
				t.Errorf("%s of %q: %v, want ErrSyntax at %d", g.start, longer, got, len(src))
			}
			continue
		}
		if more > 1 {
			everyShort(t, g, longer, more-1)
		}
		g.unread()
	}
}

// terminalOf returns what the grammar calls a token of an arbitrary source.
func terminalOf(text string) string {
	switch {
	case slices.Contains(terminals[5:], text):
		return text
	case text[0] == '"':
		return "Text"
	case text[0] >= '0' && text[0] <= '9':
		return "Int"
	case text[0] >= 'A' && text[0] <= 'Z':
		return "Up"
	case text[0] >= 'a' && text[0] <= 'z' || text[0] == '_':
		return "Low"
	}
	return "Op"
}

// spoilt changes a few tokens of a source.
func spoilt(r *rand.Rand, tokens []string) []string {
	tokens = slices.Clone(tokens)
	for range r.Intn(3) {
		i := r.Intn(len(tokens) + 1)
		other := written(terminals[r.Intn(len(terminals))])
		switch {
		case r.Intn(4) == 0:
			tokens = tokens[:i]
		case r.Intn(3) == 0 || i == len(tokens):
			tokens = slices.Insert(tokens, i, other)
		case r.Intn(2) == 0:
			tokens = slices.Delete(tokens, i, i+1)
		default:
			tokens[i] = other
		}
	}
	return tokens
}

// P6.1: the first token that the grammar does not allow, in arbitrary programs in which a few tokens are changed.
func TestSpoiltPrograms(t *testing.T) {
	wrong := 0
	for seed := range int64(4000) {
		r := rand.New(rand.NewSource(seed))
		w := &writer{r: r}
		w.prog(3)
		tokens := spoilt(r, w.tokens)
		src, places := laid(r, tokens)
		g := newRecognizer("prog")
		read := 0
		for read < len(tokens) && g.read(terminalOf(tokens[read])) {
			read++
		}
		want := api.Diag{Code: api.ErrSyntax, At: places[read]}
		if read == len(tokens) && g.whole() {
			want = api.Diag{}
		}
		_, got := Prog(src)
		if got.Code == api.ErrOps && (want == api.Diag{} || got.At < want.At) {
			continue
		}
		if got != want {
			t.Fatalf("%q: %v, want %v", src, got, want)
		}
		if want != (api.Diag{}) {
			wrong++
		}
	}
	if wrong < 1000 {
		t.Errorf("only %d wrong ones", wrong)
	}
}

// Whatever the bytes are, there is a result, or an error within them and nothing else.
func TestArbitraryBytes(t *testing.T) {
	pieces := append([]string{"é", "\xff", "\"", "\\n", "#", "\n", "'", "[", "==", "<", "&&", "::", "9999999999999999999"}, terminals...)
	r := rand.New(rand.NewSource(6))
	for range 20000 {
		var b strings.Builder
		for range r.Intn(30) {
			b.WriteString(written(pieces[r.Intn(len(pieces))]))
			if r.Intn(3) > 0 {
				b.WriteByte(' ')
			}
		}
		src := b.String()
		p, d := Prog(src)
		e, dExp := Exp(src)
		ty, dType := Type(src)
		for _, d := range []api.Diag{d, dExp, dType} {
			if d.At < 0 || d.At > len(src) || d.Code == api.OK && d.At != 0 {
				t.Fatalf("%q: %v", src, d)
			}
		}
		if d.Code != api.OK && !equal(p, api.Prog{}) || dExp.Code != api.OK && !equal(e, api.Exp{}) || dType.Code != api.OK && !equal(ty, api.Type{}) {
			t.Fatalf("%q: a result beside an error", src)
		}
	}
}
