package tests

import (
	"fmt"
	"slices"
	"testing"

	"loop.example/g00641/impl"
)

func dep(from []int, to []int) impl.Dep {
	return impl.Dep{From: from, To: to}
}

// arrow reads a sentence of digits: "01>2" is that 0 and 1 tell 2.
func arrow(text string) impl.Dep {
	d, to := impl.Dep{}, false
	for _, c := range text {
		switch {
		case c == '>':
			to = true
		case to:
			d.To = append(d.To, int(c-'0'))
		default:
			d.From = append(d.From, int(c-'0'))
		}
	}
	return d
}

func arrows(texts ...string) []impl.Dep {
	l := []impl.Dep{}
	for _, text := range texts {
		l = append(l, arrow(text))
	}
	return l
}

func upTo(cols int) []int {
	l := []int{}
	for col := range cols {
		l = append(l, col)
	}
	return l
}

func sameDep(a impl.Dep, b impl.Dep) bool {
	return slices.Equal(a.From, b.From) && slices.Equal(a.To, b.To)
}

func sameDeps(a []impl.Dep, b []impl.Dep) bool {
	return slices.EqualFunc(a, b, sameDep)
}

func copyDep(d impl.Dep) impl.Dep {
	return dep(slices.Clone(d.From), slices.Clone(d.To))
}

func copyDeps(l []impl.Dep) []impl.Dep {
	all := make([]impl.Dep, len(l))
	for i, d := range l {
		all[i] = copyDep(d)
	}
	return all
}

func wantTold(t *testing.T, what string, got bool, ok bool, want bool) {
	t.Helper()
	if got != want || !ok {
		t.Errorf("%s: got %v, %v; want %v, true", what, got, ok, want)
	}
}

func refusedTold(t *testing.T, what string, got bool, ok bool) {
	t.Helper()
	if got || ok {
		t.Errorf("%s: got %v, %v; want false, false", what, got, ok)
	}
}

func wantListsOf(t *testing.T, what string, got [][]int, ok bool, want [][]int) {
	t.Helper()
	if !slices.EqualFunc(got, want, sameTuple) || !ok {
		t.Errorf("%s: got %v, %v; want %v, true", what, got, ok, want)
	}
}

func refusedLists(t *testing.T, what string, got [][]int, ok bool) {
	t.Helper()
	if len(got) != 0 || ok {
		t.Errorf("%s: got %v, %v; want none, false", what, got, ok)
	}
}

func wantDeps(t *testing.T, what string, got []impl.Dep, ok bool, want []impl.Dep) {
	t.Helper()
	if !sameDeps(got, want) || !ok {
		t.Errorf("%s: got %v, %v; want %v, true", what, got, ok, want)
	}
}

func refusedDeps(t *testing.T, what string, got []impl.Dep, ok bool) {
	t.Helper()
	if len(got) != 0 || ok {
		t.Errorf("%s: got %v, %v; want none, false", what, got, ok)
	}
}

// The tests say what follows by pairs of tuples alone: a pair that is alike
// under just these columns, a bit each, breaks a sentence where it is alike
// under all of From and not under all of To. What some columns tell is what
// all pairs are alike under that are alike under them and break no sentence.
func bitsOf(l []int) int {
	bits := 0
	for _, col := range l {
		bits |= 1 << col
	}
	return bits
}

func columnsIn(bits int) []int {
	l := []int{}
	for col := range 6 {
		if bits>>col&1 == 1 {
			l = append(l, col)
		}
	}
	return l
}

func breaks(alike int, d impl.Dep) bool {
	from, to := bitsOf(d.From), bitsOf(d.To)
	return alike&from == from && alike&to != to
}

func wantedClosure(cols int, l []impl.Dep, some []int) []int {
	told := 1<<cols - 1
	for alike := range 1 << cols {
		broken := slices.ContainsFunc(l, func(d impl.Dep) bool { return breaks(alike, d) })
		if alike&bitsOf(some) == bitsOf(some) && !broken {
			told &= alike
		}
	}
	return columnsIn(told)
}

func wantedImplies(cols int, l []impl.Dep, d impl.Dep) bool {
	told := bitsOf(wantedClosure(cols, l, d.From))
	return told&bitsOf(d.To) == bitsOf(d.To)
}

func wantedKeys(cols int, l []impl.Dep) [][]int {
	keys := [][]int{}
	for bits := range 1 << cols {
		least := len(wantedClosure(cols, l, columnsIn(bits))) == cols
		for fewer := range bits {
			least = least && (fewer&bits != fewer || len(wantedClosure(cols, l, columnsIn(fewer))) < cols)
		}
		if least {
			keys = append(keys, columnsIn(bits))
		}
	}
	return keys
}

func wantedWitness(cols int, l []impl.Dep, d impl.Dep) impl.Relation {
	told, second := wantedClosure(cols, l, d.From), []int{}
	for col := range cols {
		if slices.Contains(told, col) {
			second = append(second, 0)
		} else {
			second = append(second, 1)
		}
	}
	return relation(upTo(cols), repeated(0, cols), second)
}

func wantedCover(cols int, l []impl.Dep) []impl.Dep {
	out := make([]bool, len(l))
	for i, d := range l {
		others := []impl.Dep{}
		for k, other := range l {
			if k != i && !out[k] {
				others = append(others, other)
			}
		}
		out[i] = wantedImplies(cols, others, d)
	}
	left := []impl.Dep{}
	for i, d := range l {
		if !out[i] {
			left = append(left, d)
		}
	}
	return left
}

// wantedHolds keeps by what stands under From what stands under To: the first one's is every one's.
func wantedHolds(r impl.Relation, d impl.Dep) bool {
	first := map[string]string{}
	for _, f := range factsOf(r) {
		from, to := "", ""
		for _, name := range d.From {
			from += fmt.Sprint(f[name], " ")
		}
		for _, name := range d.To {
			to += fmt.Sprint(f[name], " ")
		}
		old, there := first[from]
		if there && old != to {
			return false
		}
		first[from] = to
	}
	return true
}

// allDeps are all sentences of so many columns.
func allDeps(cols int) []impl.Dep {
	all := []impl.Dep{}
	for _, from := range somesOf(upTo(cols)) {
		for _, to := range somesOf(upTo(cols)) {
			all = append(all, dep(from, to))
		}
	}
	return all
}

// A theory is sentences of so many columns.
type theory struct {
	cols int
	l    []impl.Dep
}

// smallTheories are all of up to two sentences of one column and of two, and of one of three.
func smallTheories() []theory {
	all := []theory{}
	for cols := 1; cols <= 3; cols++ {
		all = append(all, theory{cols, nil})
		for _, d := range allDeps(cols) {
			all = append(all, theory{cols, []impl.Dep{d}})
			for _, other := range allDeps(cols) {
				if cols < 3 {
					all = append(all, theory{cols, []impl.Dep{d, other}})
				}
			}
		}
	}
	return all
}

func madeColumns(next func(below int) int, cols int, most int) []int {
	l := []int{}
	for range next(most + 1) {
		l = append(l, next(cols))
	}
	slices.Sort(l)
	return slices.Compact(l)
}

// madeTheories are so many, of all columns and up to 8 sentences, by a fixed rule that spreads them: mostly of short lists, so that little follows at once.
func madeTheories(many int) []theory {
	next := spreading(17)
	all := []theory{}
	for i := range many {
		made := theory{cols: i%6 + 1}
		for range next(9) {
			made.l = append(made.l, dep(madeColumns(next, made.cols, 1+i%3), madeColumns(next, made.cols, 1+next(2))))
		}
		all = append(all, made)
	}
	return all
}

// edgeTheories stand at the limits that the document names.
func edgeTheories() []theory {
	all := upTo(6)
	return []theory{
		{1, nil}, {6, nil}, {6, []impl.Dep{}}, {1, arrows(">")}, {1, arrows(">0")}, {1, arrows("0>")}, {1, arrows("0>0")}, {6, arrows(">", ">")},
		{6, arrows(">012345")}, {6, arrows("012345>")}, {6, arrows("012345>012345")}, {6, arrows("0>12345", "5>01234")},
		{1, slices.Repeat(arrows(">0"), 8)}, {6, slices.Repeat([]impl.Dep{dep(all, all)}, 8)}, {6, slices.Repeat(arrows("0>5"), 8)},
		{6, arrows("0>1", "1>2", "2>3", "3>4", "4>5")}, {6, arrows("4>5", "3>4", "2>3", "1>2", "0>1")}, {6, arrows("4>5", "3>4", "2>3", "1>2", "0>1", ">0")},
		{6, arrows("01>2", "23>4", "04>5", "5>3", "3>1", ">3")}, {6, arrows("0>1", "1>0", "2>3", "3>2", "4>5", "5>4")},
		{6, arrows("0>1", "1>2", "2>3", "3>4", "4>5", "5>0", "0>", ">")}, {6, arrows("012>345", "345>012", "034>125", "125>034")},
		{3, arrows("0>1", "0>1")}, {3, arrows("0>1", "1>2", "0>2")}, {3, arrows("0>2", "0>1", "1>2")}, {4, arrows("01>2", "0>2", "0>3", "3>2")},
	}
}

func goodTheories() []theory {
	return slices.Concat(edgeTheories(), smallTheories(), madeTheories(240))
}

// badColumns are lists that are not of rising columns, however many of them there may be.
func badColumns(cols int) [][]int {
	last := cols - 1
	all := [][]int{{-1}, {cols}, {0, cols}, {-1, 0}, {-1, last}, {last, cols}, {0, 0}, {last, last}, {-1, -1}, {0, -1}, {cols, 0}, upTo(cols + 1), repeated(0, 1000), upTo(1000)}
	if cols > 1 {
		all = append(all, []int{1, 0}, []int{last, 0}, append(upTo(cols), last), append(upTo(cols), 0), []int{0, last, last}, []int{0, 0, last})
	}
	if cols > 2 {
		all = append(all, []int{0, 2, 1}, []int{1, 0, 2}, []int{0, 1, 1}, []int{2, 1, 0}, []int{0, -1, 1}, []int{0, cols, 1}, []int{0, -1, 2}, []int{0, 7, 2})
	}
	for _, n := range extremes {
		all = append(all, []int{n}, []int{n, 0}, []int{0, n}, []int{0, n, last}, []int{n, n})
	}
	return all
}

// badDeps are sentences of which one side or both are not as said.
func badDeps(cols int) []impl.Dep {
	all := []impl.Dep{}
	for _, bad := range badColumns(cols) {
		all = append(all, dep(bad, nil), dep(nil, bad), dep(bad, []int{0}), dep([]int{0}, bad), dep(bad, bad), dep(upTo(cols), bad))
	}
	return all
}

// badTheories are sentences that are not good: one beyond a limit, or with a bad one at either end or between.
func badTheories() []theory {
	all := []theory{}
	for _, cols := range slices.Concat([]int{-1, -6, 0, 7, 8, 64}, extremes) {
		all = append(all, theory{cols, nil}, theory{cols, arrows(">")}, theory{cols, arrows("0>0")}, theory{cols, arrows("0>6")})
	}
	for cols := 1; cols <= 6; cols++ {
		good := dep([]int{0}, []int{cols - 1})
		all = append(all, theory{cols, slices.Repeat([]impl.Dep{good}, 9)}, theory{cols, slices.Repeat([]impl.Dep{good}, 100)}, theory{cols, slices.Repeat(arrows(">"), 9)})
		for _, bad := range badDeps(cols) {
			all = append(all, theory{cols, []impl.Dep{bad}}, theory{cols, []impl.Dep{bad, good}}, theory{cols, []impl.Dep{good, bad}},
				theory{cols, slices.Concat(slices.Repeat([]impl.Dep{good}, 7), []impl.Dep{bad})})
		}
	}
	return all
}
