package fix

import (
	"math/rand"
	"slices"
	"strings"
	"testing"

	"cognate/api"
)

const (
	none  = 0
	left  = 1
	right = 2
)

// levels is the chapter's table, from level 1 on; of level 8 only some.
var levels = []struct {
	side int
	ops  []string
}{
	{right, []string{":="}},
	{right, []string{"||"}},
	{right, []string{"&&"}},
	{none, []string{"==", "/=", "<", "<=", ">", ">="}},
	{right, []string{"::", "^"}},
	{left, []string{"+", "-"}},
	{left, []string{"*", "/", "%"}},
	{left, []string{"!", "<>", "**", "++", "$", ".", "&", "=>", "<-", "===", ":::", "::=", "~", "|>"}},
}

// row returns the level and the side of op by the table.
func row(op string) (int, int) {
	for i, x := range levels {
		if slices.Contains(x.ops, op) {
			return i + 1, x.side
		}
	}
	return len(levels), left
}

// all returns the operators of the table.
func all() []string {
	var l []string
	for _, x := range levels {
		l = append(l, x.ops...)
	}
	return l
}

// clash returns the index of the first clash, by the chapter's words; false if there is none.
func clash(ops []string) (int, bool) {
	for i, op := range ops {
		if n, _ := row(op); n != 4 {
			continue
		}
		for j := i - 1; j >= 0; j-- {
			n, _ := row(ops[j])
			if n == 4 {
				return i, true
			}
			if n < 4 {
				break
			}
		}
	}
	return 0, false
}

// applied returns the order of the operators from index from to index to: the last one is of the lowest level, and of those the first one if they associate to the right, otherwise the last one.
func applied(ops []string, from, to int) []int {
	if from == to {
		return nil
	}
	root := from
	for i := from + 1; i < to; i++ {
		n, _ := row(ops[i])
		if lowest, side := row(ops[root]); n < lowest || n == lowest && side == left {
			root = i
		}
	}
	return append(append(applied(ops, from, root), applied(ops, root+1, to)...), root)
}

// model is the chapter taken literally.
func model(ops []string) ([]int, int, api.Errno) {
	if at, ok := clash(ops); ok {
		return nil, at, api.ErrOps
	}
	return applied(ops, 0, len(ops)), 0, api.OK
}

// samples calls check with every sequence of up to five operators of one a level and two of level 4, and with arbitrary longer ones, always the same.
func samples(check func([]string)) {
	few := []string{":=", "||", "&&", "==", "<", "::", "+", "*", "!"}
	ops := make([]string, 0, 5)
	var grow func()
	grow = func() {
		check(ops)
		if len(ops) == cap(ops) {
			return
		}
		for _, op := range few {
			ops = append(ops, op)
			grow()
			ops = ops[:len(ops)-1]
		}
	}
	grow()
	// Of some, most operators of level 4 are replaced: long sequences would hardly be without a clash otherwise.
	r := rand.New(rand.NewSource(4))
	for n := range 6000 {
		var long []string
		for range r.Intn(40) {
			op := all()[r.Intn(len(all()))]
			if level, _ := row(op); level == 4 && r.Intn(10) < n%10 {
				op = few[r.Intn(3)]
			}
			long = append(long, op)
		}
		check(long)
	}
}

// P4.1
func TestLevel(t *testing.T) {
	for i, x := range levels {
		for _, op := range x.ops {
			if level, side := Level(op); level != i+1 || side != x.side {
				t.Errorf("Level(%q) = %d, %d, want %d, %d", op, level, side, i+1, x.side)
			}
		}
	}
}

// P4.1: whatever is not in the table is of level 8, also what is no operator at all.
func TestLevelOfOthers(t *testing.T) {
	for _, op := range []string{"", " ", "=", "|", ":", "->", "\\", "_", "x", "X", "def", "1", "\"+\"", "\xff", "é",
		" +", "+ ", "+\x00", "- -", "--", "//", "%%", "^^", ":: ", "&&&", "|||", "====", "=/", "=<", "!=", "<<", ">>", "=:", strings.Repeat("+", 100000)} {
		if level, side := Level(op); level != 8 || side != left {
			t.Errorf("Level(%.20q) = %d, %d, want 8, 1", op, level, side)
		}
	}
}

// P4.1
func TestNeeds(t *testing.T) {
	for _, c := range []struct {
		outer, inner    string
		asLeft, asRight bool
	}{
		{"*", "+", true, true}, {"+", "*", false, false}, {"-", "-", false, true}, {"-", "+", false, true}, {"::", "^", true, false},
		{"==", "<", true, true}, {"==", "==", true, true}, {":=", ":=", true, false}, {"||", "||", true, false}, {"&&", "&&", true, false},
		{"&&", "||", true, true}, {"||", "&&", false, false}, {"!", "<>", false, true}, {"%", "!", false, false}, {"!", "%", true, true},
		{":=", "!", false, false}, {"!", ":=", true, true}, {"<", "&&", true, true}, {"<", "::", false, false},
		// What is no operator is of level 8.
		{"", "x", false, true}, {"*", "", false, false}, {"->", "*", true, true},
	} {
		if got := Needs(c.outer, c.inner, false); got != c.asLeft {
			t.Errorf("Needs(%q, %q, false) = %t", c.outer, c.inner, got)
		}
		if got := Needs(c.outer, c.inner, true); got != c.asRight {
			t.Errorf("Needs(%q, %q, true) = %t", c.outer, c.inner, got)
		}
	}
}

// P4.1: every pair of the table.
func TestNeedsByLevels(t *testing.T) {
	for _, outer := range all() {
		for _, inner := range all() {
			level, side := row(outer)
			below, _ := row(inner)
			for _, of := range []int{left, right} {
				want := below < level || below == level && side != of
				if got := Needs(outer, inner, of == right); got != want {
					t.Errorf("Needs(%q, %q, %t) = %t", outer, inner, of == right, got)
				}
			}
		}
	}
}

// P4.2: ordinary sequences, written out.
func TestOrder(t *testing.T) {
	for _, c := range []struct {
		ops  string
		want []int
	}{
		{"", nil}, {"+", []int{0}}, {":=", []int{0}}, {"==", []int{0}}, {"!", []int{0}},
		{"+ *", []int{1, 0}}, {"* +", []int{0, 1}}, {":: ::", []int{1, 0}}, {":: ^", []int{1, 0}}, {"- -", []int{0, 1}}, {"- + -", []int{0, 1, 2}},
		{"* + *", []int{0, 2, 1}}, {"+ * +", []int{1, 0, 2}}, {":= || && == :: + * !", []int{7, 6, 5, 4, 3, 2, 1, 0}}, {"! * + :: == && || :=", []int{0, 1, 2, 3, 4, 5, 6, 7}},
		{"== && ==", []int{0, 2, 1}}, {"< || > && /=", []int{0, 2, 4, 3, 1}}, {"&& == + ||", []int{2, 1, 0, 3}}, {":= :=", []int{1, 0}}, {"|| || ||", []int{2, 1, 0}},
		{"&& || &&", []int{0, 2, 1}}, {"|| && ||", []int{1, 2, 0}}, {":: + :: + ::", []int{1, 3, 4, 2, 0}}, {"^ * + - ! ^", []int{1, 2, 4, 3, 5, 0}},
		{"== || == := ==", []int{0, 2, 1, 4, 3}}, {"<> ! <>", []int{0, 1, 2}},
	} {
		if got, at, e := Order(strings.Fields(c.ops)); e != api.OK || at != 0 || !slices.Equal(got, c.want) {
			t.Errorf("Order(%s) = %v, %d, %d, want %v", c.ops, got, at, e, c.want)
		}
	}
	if got, at, e := Order(nil); len(got) != 0 || at != 0 || e != api.OK {
		t.Errorf("Order(nil) = %v, %d, %d", got, at, e)
	}
	// What is no operator is of level 8.
	if got, at, e := Order([]string{"+", "", "->", "*"}); e != api.OK || at != 0 || !slices.Equal(got, []int{1, 2, 3, 0}) {
		t.Errorf("Order of no operators: %v, %d, %d", got, at, e)
	}
}

// P4.2
func TestOrderOfClashes(t *testing.T) {
	for _, c := range []struct {
		ops string
		at  int
	}{
		{"== ==", 1}, {"== + ==", 2}, {"< >=", 1}, {"/= <= >", 1}, {"== :: + * ! <", 5}, {"+ == - <", 3}, {"&& == == ||", 2}, {"|| < && < + <", 5},
		// Only operators of lower levels keep two apart, and the first clash counts.
		{"== && == ==", 3}, {"== && == || == * ==", 6}, {"== == && == ==", 1}, {"== + + == + == ==", 3}, {":= > := > >", 4},
	} {
		if got, at, e := Order(strings.Fields(c.ops)); len(got) != 0 || at != c.at || e != api.ErrOps {
			t.Errorf("Order(%s) = %v, %d, %d, want ErrOps at %d", c.ops, got, at, e, c.at)
		}
	}
	for _, a := range levels[3].ops {
		for _, b := range levels[3].ops {
			if got, at, e := Order([]string{"+", a, "::", b, "=="}); len(got) != 0 || at != 3 || e != api.ErrOps {
				t.Errorf("Order of %s and %s = %v, %d, %d", a, b, got, at, e)
			}
		}
	}
}

// P4.2: the argument stays as it is, and each result is new.
func TestOrderAgainstModel(t *testing.T) {
	good := 0
	samples(func(ops []string) {
		given := slices.Clone(ops)
		got, at, e := Order(ops)
		want, wantAt, wantE := model(given)
		if e != wantE || at != wantAt || !slices.Equal(got, want) {
			t.Fatalf("Order(%q) = %v, %d, %d, want %v, %d, %d", given, got, at, e, want, wantAt, wantE)
		}
		if !slices.Equal(ops, given) {
			t.Fatalf("Order(%q) made it %q", given, ops)
		}
		if len(ops) > 20 && e == api.OK {
			good++
		}
	})
	if good < 300 {
		t.Errorf("only %d long sequences without a clash", good)
	}
	ops := []string{"+", "*"}
	first, _, _ := Order(ops)
	second, _, _ := Order(ops)
	first[0] = 7
	if third, _, _ := Order(ops); second[0] != 1 || third[0] != 1 {
		t.Error("results share memory")
	}
}

// P4.3: applying the operators in order, each to what stands beside it, never makes an operand that would need brackets.
func TestNoOperandNeedsBrackets(t *testing.T) {
	samples(func(ops []string) {
		order, _, e := Order(ops)
		if e != api.OK {
			return
		}
		if len(order) != len(ops) {
			t.Fatalf("Order(%q) = %v", ops, order)
		}
		// Of the operand between two operators, the one that is applied last in it, found at both its ends; -1 in a single one.
		roots := slices.Repeat([]int{-1}, len(ops)+1)
		starts, ends := make([]int, len(ops)+1), make([]int, len(ops)+1)
		for i := range starts {
			starts[i], ends[i] = i, i
		}
		done := make([]bool, len(ops))
		for _, i := range order {
			if done[i] {
				t.Fatalf("Order(%q) = %v has %d twice", ops, order, i)
			}
			done[i] = true
			inLeft, inRight := roots[i], roots[i+1]
			if inLeft >= 0 && Needs(ops[i], ops[inLeft], false) || inRight >= 0 && Needs(ops[i], ops[inRight], true) {
				t.Fatalf("Order(%q) = %v: an operand of %d needs brackets", ops, order, i)
			}
			start, end := starts[i], ends[i+1]
			starts[end], ends[start] = start, end
			roots[start], roots[end] = i, i
		}
	})
}

// P4.2: sequences as long as no source has them.
func TestOrderOfLongSequences(t *testing.T) {
	const size = 1 << 20
	for _, c := range []struct {
		op   string
		want func(int) int
	}{
		{"+", func(i int) int { return i }},
		{"::", func(i int) int { return size - 1 - i }},
		{":=", func(i int) int { return size - 1 - i }},
		{"!", func(i int) int { return i }},
	} {
		got, at, e := Order(slices.Repeat([]string{c.op}, size))
		if e != api.OK || at != 0 || len(got) != size {
			t.Fatalf("Order of many %s: %d of them, %d, %d", c.op, len(got), at, e)
		}
		for i := range got {
			if got[i] != c.want(i) {
				t.Fatalf("Order of many %s: %d at %d", c.op, got[i], i)
			}
		}
	}
	ops := append(append([]string{"<"}, slices.Repeat([]string{"^", "*"}, size)...), ">=", "<")
	if got, at, e := Order(ops); len(got) != 0 || at != 2*size+1 || e != api.ErrOps {
		t.Errorf("Order of two far from each other: %d, %d, %d", len(got), at, e)
	}
}
