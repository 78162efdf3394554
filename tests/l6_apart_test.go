package tests

import (
	"fmt"
	"slices"
	"testing"

	"loop.example/g00641/impl"
)

func wantedApart(r impl.Relation, parts [][]int) []impl.Relation {
	all := []impl.Relation{}
	for _, names := range parts {
		all = append(all, projectedTo(r, names))
	}
	return all
}

func TestTakeApart(t *testing.T) {
	for _, r := range goodRelations() {
		somes := somesOf(r.Names)
		for i, first := range somes {
			second, third := somes[(i*5+1)%len(somes)], somes[len(somes)-1-i]
			for _, parts := range [][][]int{{first}, {first, second}, {second, third, first}, {first, first}, {r.Names, first}, {first, r.Names, nil}} {
				got, ok := impl.TakeApart(r, parts)
				if want := wantedApart(r, parts); !ok || !sameRelations(got, want) {
					t.Fatalf("TakeApart %v into %v: got %v, %v; want %v, true", r, parts, got, ok, want)
				}
			}
		}
	}
}

func TestTakeApartPlainly(t *testing.T) {
	r := relation([]int{3, 7, 20}, []int{0, 1, 5}, []int{0, 2, 5}, []int{1, 1, -5})
	none, all := relation(nil, []int{}), copyRelation(r)
	threes, sevens := relation([]int{3}, []int{0}, []int{1}), relation([]int{7}, []int{1}, []int{2})
	both := relation([]int{3, 20}, []int{0, 5}, []int{1, -5})
	for _, c := range []struct {
		r     impl.Relation
		parts [][]int
		want  []impl.Relation
	}{
		{r, [][]int{{3}}, []impl.Relation{threes}}, {r, [][]int{{7}, {3}}, []impl.Relation{sevens, threes}}, {r, [][]int{{3}, {3}, {7}, {3}}, []impl.Relation{threes, threes, sevens, threes}},
		{r, [][]int{{3, 7, 20}}, []impl.Relation{all}}, {r, [][]int{{}}, []impl.Relation{none}}, {r, [][]int{nil}, []impl.Relation{none}},
		{r, [][]int{{}, {3, 20}, {}}, []impl.Relation{none, both, none}}, {relation([]int{3, 7}), [][]int{{3}, {}}, []impl.Relation{relation([]int{3}), {}}},
		{impl.Relation{}, [][]int{{}}, []impl.Relation{{}}}, {none, [][]int{{}, nil}, []impl.Relation{none, none}},
	} {
		got, ok := impl.TakeApart(c.r, c.parts)
		wantRelations(t, fmt.Sprint("TakeApart ", c.r, c.parts), got, ok, c.want)
	}
}

func TestTakeApartByHowMany(t *testing.T) {
	for _, r := range []impl.Relation{{}, relation(nil, []int{}), ofNames(3, 0, 4), ofNames(60, 0, 1, 2, 3, 4, 5)} {
		for _, names := range [][]int{{}, r.Names, r.Names[:min(1, len(r.Names))]} {
			for many := range 24 {
				parts := slices.Repeat([][]int{names}, many)
				got, ok := impl.TakeApart(r, parts)
				if many >= 1 && many <= 10 {
					wantRelations(t, fmt.Sprint("TakeApart into so many: ", many), got, ok, wantedApart(r, parts))
				} else {
					refusedRelations(t, fmt.Sprint("TakeApart into so many: ", many), got, ok)
				}
			}
		}
		got, ok := impl.TakeApart(r, nil)
		refusedRelations(t, "TakeApart into none", got, ok)
		got, ok = impl.TakeApart(r, make([][]int, 1000))
		refusedRelations(t, "TakeApart into a thousand", got, ok)
	}
}

// badParts are lists of which the names 2, 5 and 9 have one that is not there, twice or out of order.
func badParts() [][]int {
	all := [][]int{{0}, {3}, {1, 5}, {2, 6}, {2, 5, 9, 10}, {2, 3, 5, 9}, {5, 2}, {9, 5, 2}, {2, 9, 5}, {2, 2}, {9, 9}, {2, 5, 5}, {2, 2, 5, 9}, upTo(7), upTo(21), repeated(2, 1000)}
	for _, n := range slices.Concat([]int{-1, 20, 21}, extremes) {
		all = append(all, []int{n}, []int{2, n}, []int{n, 9}, []int{2, n, 9}, []int{n, n})
	}
	return all
}

// A bad list among good ones is refused wherever it stands.
func TestTakeApartRefuses(t *testing.T) {
	good := [][]int{{2}, {}, {2, 5, 9}, {5, 9}, {9}, {2, 5}, {2, 9}, {5}, {}}
	for _, r := range []impl.Relation{relation([]int{2, 5, 9}), ofNames(1, 2, 5, 9), ofNames(60, 2, 5, 9)} {
		for _, bad := range badParts() {
			for at := range 10 {
				for _, parts := range [][][]int{slices.Insert(slices.Clone(good), at, bad), slices.Insert(slices.Repeat([][]int{{}}, at), at, bad)} {
					got, ok := impl.TakeApart(r, parts)
					refusedRelations(t, fmt.Sprint("TakeApart ", r.Names, parts), got, ok)
				}
			}
		}
	}
	for _, bad := range badRelations() {
		for _, parts := range [][][]int{nil, {{}}, {nil, nil}, {bad.Names}, {{0}}, {{4}, {5}}, slices.Repeat([][]int{{}}, 10), slices.Repeat([][]int{{}}, 11)} {
			got, ok := impl.TakeApart(bad, parts)
			refusedRelations(t, fmt.Sprint("TakeApart ", bad, parts), got, ok)
		}
	}
}

func wantWhole(t *testing.T, l []impl.Relation) {
	t.Helper()
	got, ok := impl.PutTogether(l)
	want, good := wantedWhole(l)
	if !good {
		want = impl.Relation{}
	}
	if ok != good || !sameRelation(got, want) {
		t.Fatalf("PutTogether %v: got %v, %v; want %v, %v", l, got, ok, want, good)
	}
}

func TestPutTogether(t *testing.T) {
	all := append(edgeRelations(), madeRelations(60, 9)...)
	for i, r := range all {
		wantWhole(t, []impl.Relation{r})
		for k, second := range all {
			wantWhole(t, []impl.Relation{r, second})
			third, fourth := all[(i*3+k)%len(all)], all[(i+k*7)%len(all)]
			wantWhole(t, []impl.Relation{r, second, third})
			wantWhole(t, []impl.Relation{second, third, r, fourth})
		}
	}
	for _, r := range smallRelations() {
		for _, second := range smallRelations() {
			wantWhole(t, []impl.Relation{r, second, r})
		}
	}
}

func TestPutTogetherPlainly(t *testing.T) {
	a, b, c := relation([]int{0, 1}, []int{0, 1}, []int{1, 1}, []int{2, 3}), relation([]int{1, 2}, []int{1, 5}, []int{1, 6}, []int{4, 7}), relation([]int{2, 3}, []int{5, 8}, []int{6, 9})
	none, same := impl.Relation{}, relation(nil, []int{})
	for _, x := range []struct {
		l    []impl.Relation
		want impl.Relation
	}{
		{[]impl.Relation{a}, a}, {[]impl.Relation{none}, none}, {[]impl.Relation{same}, same}, {[]impl.Relation{a, a}, a}, {[]impl.Relation{same, a, same}, a},
		{[]impl.Relation{relation([]int{4, 6})}, relation([]int{4, 6})}, {[]impl.Relation{none, a}, relation([]int{0, 1})}, {[]impl.Relation{a, none}, relation([]int{0, 1})},
		{[]impl.Relation{a, b}, relation(upTo(3), []int{0, 1, 5}, []int{0, 1, 6}, []int{1, 1, 5}, []int{1, 1, 6})},
		{[]impl.Relation{b, a}, relation(upTo(3), []int{0, 1, 5}, []int{0, 1, 6}, []int{1, 1, 5}, []int{1, 1, 6})},
		{[]impl.Relation{a, b, c}, relation(upTo(4), []int{0, 1, 5, 8}, []int{0, 1, 6, 9}, []int{1, 1, 5, 8}, []int{1, 1, 6, 9})},
		{[]impl.Relation{a, c, b}, relation(upTo(4), []int{0, 1, 5, 8}, []int{0, 1, 6, 9}, []int{1, 1, 5, 8}, []int{1, 1, 6, 9})},
		{[]impl.Relation{ofNames(2, 0), ofNames(2, 9)}, relation([]int{0, 9}, []int{0, 0}, []int{0, 1}, []int{1, 0}, []int{1, 1})},
		{[]impl.Relation{ofNames(2, 9), relation([]int{0}, []int{7}), ofNames(1, 9)}, relation([]int{0, 9}, []int{7, 0})},
	} {
		got, ok := impl.PutTogether(x.l)
		wantRelation(t, fmt.Sprint("PutTogether ", x.l), got, ok, x.want)
	}
}

func TestPutTogetherByHowMany(t *testing.T) {
	for _, r := range []impl.Relation{{}, relation(nil, []int{}), ofNames(3, 0, 4), ofNames(60, 0, 1, 2, 3, 4, 5)} {
		for many := range 24 {
			got, ok := impl.PutTogether(slices.Repeat([]impl.Relation{r}, many))
			if many >= 1 && many <= 10 {
				wantRelation(t, fmt.Sprint("PutTogether so many: ", many), got, ok, r)
			} else {
				refusedRelation(t, fmt.Sprint("PutTogether so many: ", many), got, ok)
			}
		}
		got, ok := impl.PutTogether(nil)
		refusedRelation(t, "PutTogether none", got, ok)
		got, ok = impl.PutTogether(make([]impl.Relation, 1000))
		refusedRelation(t, "PutTogether a thousand", got, ok)
	}
}

// The limits hold at each step: what is behind can't make it fit again.
func TestPutTogetherAtTheLimits(t *testing.T) {
	six := ofNames(6, 0)
	got, ok := impl.PutTogether([]impl.Relation{six, ofNames(10, 1)})
	if !ok || len(got.Tuples) != 60 {
		t.Errorf("PutTogether with 60 tuples: %v, %v", got, ok)
	}
	got, ok = impl.PutTogether([]impl.Relation{ofNames(1, 0), ofNames(1, 20), ofNames(1, 3), ofNames(1, 5), ofNames(1, 4), ofNames(1, 1)})
	wantRelation(t, "PutTogether of six names", got, ok, ofNames(1, 0, 1, 3, 4, 5, 20))
	one, empty := ofNames(1, 0, 1), relation([]int{0})
	for _, l := range [][]impl.Relation{
		{ofNames(61, 0)}, {ofNames(1, 0, 1, 2, 3, 4, 5, 6)}, {six, ofNames(11, 1)}, {ofNames(60, 0), ofNames(2, 1)}, {ofNames(8, 0), ofNames(8, 1)},
		{six, ofNames(11, 1), one}, {six, ofNames(11, 1), empty}, {ofNames(3, 0), ofNames(4, 1), ofNames(5, 2), ofNames(2, 3)}, {ofNames(60, 0), ofNames(2, 1), one, ofNames(1, 0)},
		{ofNames(1, 0, 1, 2, 3), ofNames(1, 4, 5, 6)}, {relation([]int{0, 1, 2, 3}), relation([]int{4, 5, 6})}, {empty, ofNames(1, 1, 2, 3), ofNames(1, 4, 5, 6)},
		{ofNames(1, 0, 1, 2), ofNames(1, 2, 3, 4, 5), ofNames(1, 5, 6)}, {ofNames(1, 0, 1, 2), ofNames(1, 3, 4, 5), ofNames(1, 0), ofNames(0, 20)},
	} {
		got, ok := impl.PutTogether(l)
		refusedRelation(t, fmt.Sprint("PutTogether ", l), got, ok)
	}
	got, ok = impl.PutTogether([]impl.Relation{one, six, ofNames(11, 1)})
	wantRelation(t, "PutTogether of what fits in this order", got, ok, one)
	got, ok = impl.PutTogether([]impl.Relation{empty, ofNames(60, 1), ofNames(60, 2)})
	wantRelation(t, "PutTogether of none and many", got, ok, relation(upTo(3)))
}

// A bad one among good ones is refused wherever it stands, behind a relation without tuples too.
func TestPutTogetherRefuses(t *testing.T) {
	for _, bad := range badRelations() {
		for _, good := range []impl.Relation{{}, relation(nil, []int{}), ofNames(2, 0), ofNames(2, 4, 5)} {
			for _, l := range [][]impl.Relation{{bad}, {bad, good}, {good, bad}, {bad, bad}, {good, bad, good}, append(slices.Repeat([]impl.Relation{good}, 9), bad), append([]impl.Relation{bad}, slices.Repeat([]impl.Relation{good}, 9)...)} {
				got, ok := impl.PutTogether(l)
				refusedRelation(t, fmt.Sprint("PutTogether ", l), got, ok)
			}
		}
	}
}
