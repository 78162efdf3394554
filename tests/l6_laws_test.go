package tests

import (
	"fmt"
	"slices"
	"testing"

	"loop.example/g00641/impl"
)

func lossless(t *testing.T, x theory, a []int, b []int) bool {
	t.Helper()
	told, ok := impl.IsLossless(x.cols, x.l, a, b)
	if !ok {
		t.Fatalf("IsLossless refuses %v and %v of %v", a, b, x)
	}
	return told
}

func taken(t *testing.T, r impl.Relation, parts ...[]int) []impl.Relation {
	t.Helper()
	l, ok := impl.TakeApart(r, parts)
	if !ok {
		t.Fatalf("TakeApart refuses %v into %v", r, parts)
	}
	return l
}

// coverings are all pairs of parts that have all columns together.
func coverings(cols int) [][2][]int {
	all, pairs := 1<<cols-1, [][2][]int{}
	for a := range all + 1 {
		for b := range all + 1 {
			if a|b == all {
				pairs = append(pairs, [2][]int{columnsIn(a), columnsIn(b)})
			}
		}
	}
	return pairs
}

// wantAgain asks that r is put together again from both parts, whichever comes first.
func wantAgain(t *testing.T, r impl.Relation, a []int, b []int) {
	t.Helper()
	for _, parts := range [][][]int{{a, b}, {b, a}} {
		whole, ok := impl.PutTogether(taken(t, r, parts...))
		if !ok {
			t.Fatalf("PutTogether refuses %v taken apart into %v", r, parts)
		}
		wantAlike(t, fmt.Sprint("put together again from ", parts), whole, r)
	}
}

// Promise 6, Heath: where what both parts have tells one of them all relations in which the sentences hold are put together again: all of three columns of 0 and 1.
func TestRelationsArePutTogetherAgain(t *testing.T) {
	relations := bitRelations(upTo(3))
	theories := slices.DeleteFunc(append(edgeTheories(), madeTheories(120)...), func(x theory) bool { return x.cols != 3 })
	for _, d := range allDeps(3) {
		theories = append(theories, theory{3, []impl.Dep{d}})
	}
	for _, x := range theories {
		fitting := slices.DeleteFunc(slices.Clone(relations), func(r impl.Relation) bool { return !allHold(t, r, x.l) })
		for _, c := range coverings(3) {
			everywhere := true
			for _, r := range fitting {
				whole, ok := impl.PutTogether(taken(t, r, c[0], c[1]))
				everywhere = everywhere && ok && sameRelation(whole, r)
			}
			if told := lossless(t, x, c[0], c[1]); told != everywhere {
				t.Errorf("%v and %v of %v: lossless is %v, put together again everywhere is %v", c[0], c[1], x, told, everywhere)
			}
		}
	}
}

// Promise 6, Heath: so are greater ones, of more columns and numbers.
func TestGreaterRelationsArePutTogetherAgain(t *testing.T) {
	most, many := 0, 0
	for i, x := range append(edgeTheories(), madeTheories(72)...) {
		r := grown(t, x, uint64(i))
		if !impl.GoodRelation(r) || !allHold(t, r, x.l) {
			t.Fatalf("%v was not to be grown for %v", r, x)
		}
		for k, c := range coverings(x.cols) {
			isPlain := len(c[0]) < x.cols && len(c[1]) < x.cols
			if (k%3 == i%3 || isPlain) && lossless(t, x, c[0], c[1]) {
				wantAgain(t, r, c[0], c[1])
				if isPlain {
					most, many = max(most, len(r.Tuples)), many+1
				}
			}
		}
	}
	if most < 20 || many < 1000 {
		t.Errorf("at most %d tuples were tried, and %d times two parts", most, many)
	}
}

// Where it tells that something may be lost there is a relation in which all sentences hold, and of which it is lost.
func TestWhatMayBeLostIsShown(t *testing.T) {
	for _, x := range splitTheories() {
		for _, c := range coverings(x.cols) {
			if lossless(t, x, c[0], c[1]) {
				continue
			}
			common := slices.DeleteFunc(slices.Clone(c[0]), func(col int) bool { return !slices.Contains(c[1], col) })
			r, ok := impl.WitnessFor(x.cols, x.l, dep(common, c[0]))
			if !ok || !allHold(t, r, x.l) {
				t.Fatalf("what %v tell by %v is not shown: %v, %v", common, x, r, ok)
			}
			whole, ok := impl.PutTogether(taken(t, r, c[0], c[1]))
			if !ok || len(whole.Tuples) != 4 {
				t.Errorf("%v taken apart into %v by %v: %v, %v", r, c, x, whole, ok)
			}
		}
	}
}

// However a relation is taken apart, what is put together has all its tuples, and its parts are those of the whole.
func TestPutTogetherHasAllThatWasTakenApart(t *testing.T) {
	for _, r := range append(madeRelations(80, 7), edgeRelations()...) {
		somes := somesOf(r.Names)
		for i, first := range somes {
			parts := [][]int{first, somes[(i*3+1)%len(somes)], somes[len(somes)-1-i]}
			l := taken(t, r, parts...)
			whole, ok := impl.PutTogether(l)
			if !ok {
				continue
			}
			for _, tuple := range r.Tuples {
				if !tupleStands(whole, tuple) {
					t.Fatalf("%v taken apart into %v is put together to %v", r, parts, whole)
				}
			}
			for k, part := range parts {
				wantAlike(t, "a part of the whole", projected(t, whole, part), l[k])
			}
		}
	}
}

// A step is a part that gives way, by what, and to which two.
type step struct {
	part, first, second []int
	bad                 impl.Dep
}

// stepsFrom are the steps from a part on, the front half's ahead, and the parts that stay.
func stepsFrom(t *testing.T, x theory, part []int) ([]step, [][]int) {
	t.Helper()
	bad, found := impl.BadIn(x.cols, x.l, part)
	if !found {
		return nil, [][]int{part}
	}
	a, b, ok := impl.SplitBy(x.cols, part, bad)
	if !ok || len(a) >= len(part) || len(b) >= len(part) {
		t.Fatalf("SplitBy of %v, %v by %v: %v, %v, %v", x, part, bad, a, b, ok)
	}
	steps, left := stepsFrom(t, x, a)
	more, right := stepsFrom(t, x, b)
	return append(append([]step{{part, a, b, bad}}, steps...), more...), append(left, right...)
}

// Promise 6, Boyce and Codd: no part of SplitAll has BadIn, all columns are in some part, and the parts are those that the steps lead to.
func TestSplitAllLeavesNoBadPart(t *testing.T) {
	most := 0
	for _, x := range goodTheories() {
		parts, ok := impl.SplitAll(x.cols, x.l)
		if !ok || len(parts) == 0 {
			t.Fatalf("SplitAll of %v: %v, %v", x, parts, ok)
		}
		most = max(most, len(parts))
		bits := 0
		for _, part := range parts {
			bad, found := impl.BadIn(x.cols, x.l, part)
			refusedDep(t, fmt.Sprint("BadIn of a part of SplitAll ", x, part), bad, found)
			for _, some := range somesOf(part) {
				told := bitsOf(closureOf(t, x, some)) & bitsOf(part)
				if told != bitsOf(some) && told != bitsOf(part) {
					t.Errorf("%v of the part %v of %v tell some of it, and not all", some, part, x)
				}
			}
			bits |= bitsOf(part)
		}
		wantList(t, fmt.Sprint("the columns of all parts of ", x), columnsIn(bits), true, upTo(x.cols))
		_, left := stepsFrom(t, x, upTo(x.cols))
		wantListsOf(t, fmt.Sprint("SplitAll ", x), parts, ok, left)
	}
	if most < 4 {
		t.Errorf("at most %d parts were tried", most)
	}
}

// countedIn tells for columns of a part their places in it.
func countedIn(part []int, l []int) []int {
	places := []int{}
	for _, col := range l {
		places = append(places, slices.Index(part, col))
	}
	return places
}

// Promise 6: each step of SplitAll loses nothing: of the part's own columns, by what is bad in it, and of all columns with those beyond the part beside either half.
func TestStepsOfSplitAllLoseNothing(t *testing.T) {
	many := 0
	for _, x := range goodTheories() {
		steps, _ := stepsFrom(t, x, upTo(x.cols))
		many += len(steps)
		for _, s := range steps {
			if !implied(t, x, s.bad) {
				t.Errorf("%v is bad in %v, and does not follow from %v", s.bad, s.part, x)
			}
			bad := dep(countedIn(s.part, s.bad.From), countedIn(s.part, s.bad.To))
			own := theory{len(s.part), []impl.Dep{bad}}
			if !lossless(t, own, countedIn(s.part, s.first), countedIn(s.part, s.second)) {
				t.Errorf("%v of %v loses something as a part of its own", s, x)
			}
			beyond := 1<<x.cols - 1 - bitsOf(s.part)
			if !lossless(t, x, s.first, columnsIn(bitsOf(s.second)|beyond)) {
				t.Errorf("%v of %v loses something", s, x)
			}
		}
	}
	if many < 200 {
		t.Errorf("%d steps were tried", many)
	}
}

// Promise 6: so a relation in which the sentences hold is put together again from all parts of SplitAll, step by step.
func TestRelationsArePutTogetherAgainFromAllParts(t *testing.T) {
	many := 0
	for i, x := range append(edgeTheories(), madeTheories(120)...) {
		r := grown(t, x, uint64(i))
		steps, parts := stepsFrom(t, x, upTo(x.cols))
		for _, s := range steps {
			wantPartAgain(t, projected(t, r, s.part), s)
		}
		if len(parts) > 10 {
			continue
		}
		whole, ok := impl.PutTogether(taken(t, r, parts...))
		if want, good := wantedWhole(wantedApart(r, parts)); ok != good || ok && !sameRelation(whole, want) {
			t.Errorf("%v taken apart into %v: %v, %v; want %v, %v", r, parts, whole, ok, want, good)
		}
		if ok {
			wantAlike(t, fmt.Sprint("put together again from ", parts), whole, r)
			many += len(steps)
		}
	}
	if many < 40 {
		t.Errorf("%d steps were tried", many)
	}
}

func wantPartAgain(t *testing.T, r impl.Relation, s step) {
	t.Helper()
	whole, ok := impl.PutTogether(taken(t, r, s.first, s.second))
	if !ok {
		t.Fatalf("PutTogether refuses %v taken apart by %v", r, s)
	}
	wantAlike(t, fmt.Sprint("put together again by ", s), whole, r)
}

// A sentence that is kept in a part holds in that part of each relation in which all hold; for one that is not there is a relation in whose part it does not.
func TestKeptSentencesHoldInTheirPart(t *testing.T) {
	for i, x := range append(edgeTheories(), madeTheories(36)...) {
		r := grown(t, x, uint64(i))
		for k, d := range allDeps(x.cols) {
			if x.cols > 4 && k%7 != i%7 {
				continue
			}
			part := columnsIn(bitsOf(d.From) | bitsOf(d.To) | k%(1<<x.cols))
			kept, ok := impl.IsKept(x.cols, x.l, part, d)
			if !ok {
				t.Fatalf("IsKept refuses %v, %v of %v", part, d, x)
			}
			if kept && !holds(t, projected(t, r, part), d) {
				t.Errorf("%v is kept in %v by %v, and does not hold in %v", d, part, x, r)
			}
			shown, isShown := impl.WitnessFor(x.cols, x.l, d)
			if kept == isShown || isShown && holds(t, projected(t, shown, part), d) {
				t.Errorf("%v in %v by %v: kept is %v, and %v is shown", d, part, x, kept, shown)
			}
		}
	}
}
