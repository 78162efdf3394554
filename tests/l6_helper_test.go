package tests

import (
	"slices"
	"testing"

	"loop.example/g00641/impl"
)

func sameRelations(a []impl.Relation, b []impl.Relation) bool {
	return slices.EqualFunc(a, b, sameRelation)
}

func copyRelations(l []impl.Relation) []impl.Relation {
	all := make([]impl.Relation, len(l))
	for i, r := range l {
		all[i] = copyRelation(r)
	}
	return all
}

func wantDep(t *testing.T, what string, got impl.Dep, ok bool, want impl.Dep) {
	t.Helper()
	if !sameDep(got, want) || !ok {
		t.Errorf("%s: got %v, %v; want %v, true", what, got, ok, want)
	}
}

func refusedDep(t *testing.T, what string, got impl.Dep, ok bool) {
	t.Helper()
	if len(got.From) != 0 || len(got.To) != 0 || ok {
		t.Errorf("%s: got %v, %v; want the zero sentence, false", what, got, ok)
	}
}

// A halves is what SplitBy tells.
type halves struct {
	a, b []int
	ok   bool
}

func halvesBy(cols int, part []int, d impl.Dep) halves {
	a, b, ok := impl.SplitBy(cols, part, d)
	return halves{a, b, ok}
}

func sameHalves(x halves, y halves) bool {
	return slices.Equal(x.a, y.a) && slices.Equal(x.b, y.b) && x.ok == y.ok
}

func refusedSplit(t *testing.T, cols int, part []int, d impl.Dep) {
	t.Helper()
	if got := halvesBy(cols, part, d); !sameHalves(got, halves{}) {
		t.Errorf("SplitBy of %d columns, %v by %v: got %v; want none, none, false", cols, part, d, got)
	}
}

func wantRelations(t *testing.T, what string, got []impl.Relation, ok bool, want []impl.Relation) {
	t.Helper()
	if !sameRelations(got, want) || !ok {
		t.Errorf("%s: got %v, %v; want %v, true", what, got, ok, want)
	}
}

func refusedRelations(t *testing.T, what string, got []impl.Relation, ok bool) {
	t.Helper()
	if len(got) != 0 || ok {
		t.Errorf("%s: got %v, %v; want none, false", what, got, ok)
	}
}

// toldOf tells for the bits of each list of columns those of all that it tells, by pairs of tuples as the tests of chapter 5 have it.
func toldOf(x theory) []int {
	told := make([]int, 1<<x.cols)
	for bits := range told {
		told[bits] = bitsOf(wantedClosure(x.cols, x.l, columnsIn(bits)))
	}
	return told
}

// wantedLossless is asked of parts that have all columns together.
func wantedLossless(told []int, a int, b int) bool {
	missing := (len(told) - 1) &^ told[a&b]
	return missing&a == 0 || missing&b == 0
}

func wantedBad(told []int, part int) (impl.Dep, bool) {
	for some := range told {
		isOfPart := some&^part == 0
		more, left := told[some]&part&^some, part&^told[some]
		if isOfPart && more != 0 && left != 0 {
			return dep(columnsIn(some), columnsIn(more)), true
		}
	}
	return impl.Dep{}, false
}

func wantedSplit(part int, from int, to int) halves {
	if from&to != 0 || (from|to)&^part != 0 {
		return halves{}
	}
	return halves{columnsIn(from | to), columnsIn(part &^ to), true}
}

// wantedParts takes a bad part apart and both halves for themselves: what comes of the front one stands ahead of what comes of the other.
func wantedParts(told []int, part int) [][]int {
	bad, found := wantedBad(told, part)
	if !found {
		return [][]int{columnsIn(part)}
	}
	from, to := bitsOf(bad.From), bitsOf(bad.To)
	return append(wantedParts(told, from|to), wantedParts(told, part&^to)...)
}

// wantedWhole joins by facts from the front on; it tells false where one is not good or some step has more than a relation may.
func wantedWhole(l []impl.Relation) (impl.Relation, bool) {
	whole := relation(nil, []int{})
	for _, r := range l {
		if !impl.GoodRelation(r) {
			return impl.Relation{}, false
		}
		whole = joinedOf(whole, r)
		if len(whole.Names) > 6 || len(whole.Tuples) > 60 {
			return impl.Relation{}, false
		}
	}
	return whole, len(l) > 0 && len(l) <= 10
}

// splitTheories are those at which every two parts or every sentence is asked for.
func splitTheories() []theory {
	return slices.Concat(edgeTheories(), smallTheories(), madeTheories(60))
}

// ofNames is a relation of so many tuples under names: all its numbers go up, so that no two are alike anywhere.
func ofNames(many int, names ...int) impl.Relation {
	r := relation(names)
	for i := range many {
		r.Tuples = append(r.Tuples, repeated(i, len(names)))
	}
	return r
}
