package tests

import (
	"fmt"
	"slices"
	"testing"

	"loop.example/g00641/impl"
)

// askedNames are names at both ends, between, and what no name can be.
var askedNames = slices.Concat([]int{-20, -1, 0, 1, 3, 4, 9, 13, 19, 20, 21, 22}, extremes)

func TestLimitOfChapter3(t *testing.T) {
	if impl.MaxTuples != 60 {
		t.Error("the limit is", impl.MaxTuples)
	}
}

func TestGoodRelation(t *testing.T) {
	for _, r := range goodRelations() {
		if !impl.GoodRelation(r) {
			t.Errorf("%v is not good", r)
		}
	}
	for _, r := range badRelations() {
		if impl.GoodRelation(r) {
			t.Errorf("%v is good", r)
		}
	}
}

func TestGoodRelationByNamesAndNumbers(t *testing.T) {
	for a := -2; a <= 22; a++ {
		if got, want := impl.GoodRelation(relation([]int{a}, []int{5})), a >= 0 && a <= 20; got != want {
			t.Errorf("the name %d: good is %v", a, got)
		}
		for b := -2; b <= 22; b++ {
			if got, want := impl.GoodRelation(relation([]int{a, b}, []int{5, 4})), a >= 0 && a < b && b <= 20; got != want {
				t.Errorf("the names %d, %d: good is %v", a, b, got)
			}
		}
	}
	for n := -1002; n <= 1002; n++ {
		if got, want := impl.GoodRelation(relation([]int{1, 2}, []int{3, n})), n >= -1000 && n <= 1000; got != want {
			t.Errorf("the number %d: good is %v", n, got)
		}
	}
}

// Tuples are in order just where number by number the first unlike one rises.
func TestGoodRelationByOrder(t *testing.T) {
	names := []int{2, 5, 8}
	for i, a := range bitTuples(3) {
		for k, b := range bitTuples(3) {
			if got := impl.GoodRelation(relation(names, a, b)); got != (i < k) {
				t.Errorf("%v ahead of %v: good is %v", a, b, got)
			}
			for m, c := range bitTuples(3) {
				if got := impl.GoodRelation(relation(names, a, b, c)); got != (i < k && k < m) {
					t.Errorf("%v, %v, %v: good is %v", a, b, c, got)
				}
			}
		}
	}
}

func TestGoodRelationByHowMany(t *testing.T) {
	for many := range 65 {
		for wide := 1; wide <= 7; wide++ {
			names := []int{0, 1, 2, 3, 4, 5, 6}[:wide]
			if got, want := impl.GoodRelation(relation(names, manyTuples(many, wide)...)), many <= 60 && wide <= 6; got != want {
				t.Errorf("%d tuples of %d: good is %v", many, wide, got)
			}
		}
		if got, want := impl.GoodRelation(relation(nil, slices.Repeat([][]int{{}}, many)...)), many <= 1; got != want {
			t.Errorf("%d tuples of no names: good is %v", many, got)
		}
	}
}

func TestChoose(t *testing.T) {
	for _, r := range goodRelations() {
		for _, name := range r.Names {
			for _, kind := range kinds {
				for _, n := range []int{-1000, -999, -1, 0, 1, 2, 999, 1000} {
					got, ok := impl.Choose(r, name, kind, n)
					wantRelation(t, fmt.Sprint("Choose ", r, name, kind, n), got, ok, chosenBy(r, name, kind, n))
				}
			}
		}
	}
}

func TestChoosePlainly(t *testing.T) {
	r := relation([]int{3, 8}, []int{-1000, 5}, []int{0, 1}, []int{0, 5}, []int{1000, -1000}, []int{1000, 5})
	for _, c := range []struct {
		name, kind, n int
		at            []int
	}{
		{3, impl.CmEqual, 0, []int{1, 2}}, {3, impl.CmLess, 0, []int{0}}, {3, impl.CmMore, 0, []int{3, 4}},
		{8, impl.CmEqual, 5, []int{0, 2, 4}}, {8, impl.CmLess, 5, []int{1, 3}}, {8, impl.CmMore, 5, nil}, {8, impl.CmEqual, 4, nil},
		{3, impl.CmEqual, -1000, []int{0}}, {3, impl.CmLess, -1000, nil}, {3, impl.CmMore, -1000, []int{1, 2, 3, 4}},
		{3, impl.CmEqual, 1000, []int{3, 4}}, {3, impl.CmLess, 1000, []int{0, 1, 2}}, {3, impl.CmMore, 1000, nil},
		{8, impl.CmLess, 1000, []int{0, 1, 2, 3, 4}},
	} {
		want := relation(r.Names)
		for _, at := range c.at {
			want.Tuples = append(want.Tuples, r.Tuples[at])
		}
		got, ok := impl.Choose(r, c.name, c.kind, c.n)
		wantRelation(t, fmt.Sprint("Choose ", c.name, c.kind, c.n), got, ok, want)
	}
}

// With tuples and without: a wrong argument is refused even where nothing is to be compared.
func TestChooseRefuses(t *testing.T) {
	numbers := slices.Concat([]int{-1001, -1000, 0, 1000, 1001}, extremes)
	for _, r := range []impl.Relation{relation([]int{0, 9}), relation([]int{0, 9}, []int{0, 1}, []int{1, 0}), {}, relation(nil, []int{})} {
		for _, name := range askedNames {
			for _, kind := range slices.Concat(kinds, wrongSmall) {
				for _, n := range numbers {
					what := fmt.Sprint("Choose ", r, name, kind, n)
					got, ok := impl.Choose(r, name, kind, n)
					if slices.Contains(r.Names, name) && slices.Contains(kinds, kind) && n >= -1000 && n <= 1000 {
						wantRelation(t, what, got, ok, chosenBy(r, name, kind, n))
					} else {
						refusedRelation(t, what, got, ok)
					}
				}
			}
		}
	}
}

func TestProject(t *testing.T) {
	for _, r := range goodRelations() {
		for _, names := range somesOf(r.Names) {
			got, ok := impl.Project(r, names)
			wantRelation(t, fmt.Sprint("Project ", r, names), got, ok, projectedTo(r, names))
		}
		whole, ok := impl.Project(r, r.Names)
		wantRelation(t, fmt.Sprint("Project to all of ", r), whole, ok, r)
	}
}

// A tuple stands once, in order, also where two of a projection become alike.
func TestProjectTellsEachTupleOnce(t *testing.T) {
	r := relation([]int{1, 4, 6}, []int{0, 9, 1}, []int{1, 9, 0}, []int{2, 3, 1}, []int{3, 9, 1}, []int{4, -9, 5}, []int{5, 9, 1})
	for _, c := range []struct {
		names []int
		want  impl.Relation
	}{
		{[]int{4}, relation([]int{4}, []int{-9}, []int{3}, []int{9})},
		{[]int{6}, relation([]int{6}, []int{0}, []int{1}, []int{5})},
		{[]int{4, 6}, relation([]int{4, 6}, []int{-9, 5}, []int{3, 1}, []int{9, 0}, []int{9, 1})},
		{[]int{1, 6}, relation([]int{1, 6}, []int{0, 1}, []int{1, 0}, []int{2, 1}, []int{3, 1}, []int{4, 5}, []int{5, 1})},
	} {
		got, ok := impl.Project(r, c.names)
		wantRelation(t, fmt.Sprint("Project ", c.names), got, ok, c.want)
	}
	all := relation([]int{4, 5}, manyTuples(60, 2)...)
	got, ok := impl.Project(all, []int{5})
	wantRelation(t, "Project of 60", got, ok, relation([]int{5}, []int{-2}, []int{-1}, []int{0}, []int{1}, []int{2}))
}

// To no names: one tuple of no numbers where there is any tuple, else none.
func TestProjectToNoNames(t *testing.T) {
	for _, r := range goodRelations() {
		want := impl.Relation{}
		if len(r.Tuples) > 0 {
			want.Tuples = [][]int{{}}
		}
		for _, names := range [][]int{nil, {}} {
			got, ok := impl.Project(r, names)
			wantRelation(t, fmt.Sprint("Project to no names ", r), got, ok, want)
		}
	}
}

func TestProjectRefuses(t *testing.T) {
	relations := []impl.Relation{relation([]int{0, 4, 20}), relation([]int{0, 4, 20}, []int{1, 2, 3}), {}, relation(nil, []int{})}
	wrong := [][]int{{4, 0}, {20, 4}, {0, 0}, {4, 4}, {0, 4, 4}, {0, 20, 4}, {0, 4, 20, 20}, {0, 4, 20, 0}, {0, 1, 4}, repeated(0, 1000)}
	for _, name := range askedNames {
		if name != 0 && name != 4 && name != 20 {
			wrong = append(wrong, []int{name}, []int{name, 20}, []int{0, name}, []int{0, 4, name}, []int{0, 4, 20, name}, []int{name, 0, 4, 20})
		}
	}
	for _, r := range relations {
		for _, names := range wrong {
			got, ok := impl.Project(r, names)
			refusedRelation(t, fmt.Sprint("Project ", r, names), got, ok)
		}
	}
}

func TestJoinTwo(t *testing.T) {
	for _, l := range [][]impl.Relation{smallRelations(), madeRelations(60, 12), append(edgeRelations(), madeRelations(20, 70)...)} {
		for _, a := range l {
			for _, b := range l {
				if len(a.Tuples) > 60 || len(b.Tuples) > 60 {
					continue
				}
				got, ok := impl.JoinTwo(a, b)
				wantOrNone(t, fmt.Sprint("JoinTwo ", a, b), got, ok, joinedOf(a, b))
			}
		}
	}
}

func TestJoinTwoPlainly(t *testing.T) {
	a := relation([]int{1, 5}, []int{0, 7}, []int{1, 8}, []int{2, 7})
	for _, c := range []struct {
		what    string
		b, want impl.Relation
	}{
		{"one common name", relation([]int{3, 5}, []int{4, 7}, []int{6, 7}, []int{9, 9}),
			relation([]int{1, 3, 5}, []int{0, 4, 7}, []int{0, 6, 7}, []int{2, 4, 7}, []int{2, 6, 7})},
		{"no common name", relation([]int{0}, []int{-1}, []int{1}),
			relation([]int{0, 1, 5}, []int{-1, 0, 7}, []int{-1, 1, 8}, []int{-1, 2, 7}, []int{1, 0, 7}, []int{1, 1, 8}, []int{1, 2, 7})},
		{"all names common", relation([]int{1, 5}, []int{1, 8}, []int{2, 6}, []int{2, 7}), relation([]int{1, 5}, []int{1, 8}, []int{2, 7})},
		{"all names of one common", relation([]int{5}, []int{7}), relation([]int{1, 5}, []int{0, 7}, []int{2, 7})},
		{"itself", a, a},
		{"none alike", relation([]int{5, 6}, []int{9, 9}), relation([]int{1, 5, 6})},
		{"no tuples", relation([]int{5, 6}), relation([]int{1, 5, 6})},
		{"no names, one tuple", relation(nil, []int{}), a},
		{"no names, no tuple", relation(nil), relation([]int{1, 5})},
	} {
		got, ok := impl.JoinTwo(a, c.b)
		wantRelation(t, "JoinTwo: "+c.what, got, ok, c.want)
		got, ok = impl.JoinTwo(c.b, a)
		wantRelation(t, "JoinTwo, the other first: "+c.what, got, ok, c.want)
	}
}

// 6 names and 60 tuples may be met, one more of either may not, be there tuples or not.
func TestJoinTwoAtTheLimits(t *testing.T) {
	three := relation([]int{0, 2, 4}, manyTuples(6, 3)...)
	for _, c := range []struct {
		b    impl.Relation
		good bool
	}{
		{relation([]int{1, 3, 5}, manyTuples(10, 3)...), true}, {relation([]int{1, 3, 5}, manyTuples(11, 3)...), false},
		{relation([]int{1, 3, 5, 6}, manyTuples(1, 4)...), false}, {relation([]int{1, 3, 5, 6}), false}, {relation([]int{1, 3, 5}), true},
		{relation([]int{0, 1, 2, 3, 4, 5}), true}, {relation([]int{0, 1, 2, 3, 5, 6}), false}, {relation([]int{7, 8, 9, 10, 11, 12}), false},
	} {
		want := joinedOf(three, c.b)
		if good := len(want.Names) <= 6 && len(want.Tuples) <= 60; good != c.good {
			t.Fatalf("%v with %v: %d names, %d tuples", three, c.b, len(want.Names), len(want.Tuples))
		}
		got, ok := impl.JoinTwo(three, c.b)
		wantOrNone(t, fmt.Sprint("JoinTwo with ", c.b), got, ok, want)
		got, ok = impl.JoinTwo(c.b, three)
		wantOrNone(t, fmt.Sprint("JoinTwo of ", c.b), got, ok, want)
	}
	sixty, one := relation([]int{3}, manyTuples(60, 1)...), relation([]int{1}, []int{0})
	got, ok := impl.JoinTwo(sixty, one)
	wantRelation(t, "JoinTwo of 60 and 1", got, ok, joinedOf(sixty, one))
	for _, many := range []int{2, 60} {
		got, ok = impl.JoinTwo(sixty, relation([]int{1}, manyTuples(many, 1)...))
		refusedRelation(t, fmt.Sprint("JoinTwo of 60 and ", many), got, ok)
	}
}

func TestUnionOfAndWithoutOf(t *testing.T) {
	all := append(goodRelations(), bitRelations([]int{1, 4, 6})...)
	for _, a := range all {
		for _, b := range all {
			union, ok := impl.UnionOf(a, b)
			left, ok2 := impl.WithoutOf(a, b)
			if !slices.Equal(a.Names, b.Names) {
				refusedRelation(t, fmt.Sprint("UnionOf ", a, b), union, ok)
				refusedRelation(t, fmt.Sprint("WithoutOf ", a, b), left, ok2)
				continue
			}
			wantOrNone(t, fmt.Sprint("UnionOf ", a, b), union, ok, unitedOf(a, b))
			wantRelation(t, fmt.Sprint("WithoutOf ", a, b), left, ok2, leftOf(a, b))
		}
	}
}

// The same tuple in both counts once: 60 may be met however many stand in both.
func TestUnionOfAtTheLimit(t *testing.T) {
	all := manyTuples(61, 2)
	names := []int{4, 20}
	for first := range 61 {
		for from := range first + 1 {
			a := relation(names, all[:first]...)
			for _, to := range []int{first, 60, 61} {
				b := relation(names, all[from:to]...)
				if len(b.Tuples) > 60 {
					continue
				}
				want := relation(names, all[:max(first, to)]...)
				got, ok := impl.UnionOf(a, b)
				wantOrNone(t, fmt.Sprint("UnionOf up to ", first, " and ", from, " to ", to), got, ok, want)
				got, ok = impl.UnionOf(b, a)
				wantOrNone(t, fmt.Sprint("UnionOf ", from, " to ", to, " and up to ", first), got, ok, want)
			}
		}
	}
}

// Unlike names are refused where there are no tuples too; SameTuples tells of them that they are not the same.
func TestUnlikeNamesAreRefused(t *testing.T) {
	for _, c := range [][2][]int{{{1}, {2}}, {{1}, {1, 2}}, {{1, 2}, {1}}, {{}, {0}}, {{0}, {}}, {{0, 20}, {0, 19}}} {
		for _, many := range []int{0, 1} {
			a := relation(c[0], slices.Repeat([][]int{repeated(3, len(c[0]))}, many)...)
			b := relation(c[1], slices.Repeat([][]int{repeated(3, len(c[1]))}, many)...)
			got, ok := impl.UnionOf(a, b)
			refusedRelation(t, fmt.Sprint("UnionOf ", a, b), got, ok)
			got, ok = impl.WithoutOf(a, b)
			refusedRelation(t, fmt.Sprint("WithoutOf ", a, b), got, ok)
			if same, ok := impl.SameTuples(a, b); same || !ok {
				t.Errorf("SameTuples %v, %v: got %v, %v; want false, true", a, b, same, ok)
			}
		}
	}
}

func TestRename(t *testing.T) {
	for _, r := range goodRelations() {
		for _, from := range askedNames {
			for _, to := range askedNames {
				what := fmt.Sprint("Rename ", r, from, to)
				got, ok := impl.Rename(r, from, to)
				if !slices.Contains(r.Names, from) || slices.Contains(r.Names, to) || to < 0 || to > 20 {
					refusedRelation(t, what, got, ok)
					continue
				}
				wantRelation(t, what, got, ok, renamedOf(r, from, to))
				back, ok := impl.Rename(got, to, from)
				wantRelation(t, what+" and back", back, ok, r)
			}
		}
	}
}

func TestRenamePlainly(t *testing.T) {
	r := relation([]int{2, 5}, []int{0, 9}, []int{1, 3}, []int{2, 9})
	turned := [][]int{{3, 1}, {9, 0}, {9, 2}}
	for _, c := range []struct {
		from, to int
		want     impl.Relation
	}{
		{2, 0, relation([]int{0, 5}, r.Tuples...)}, {2, 4, relation([]int{4, 5}, r.Tuples...)}, {2, 6, relation([]int{5, 6}, turned...)},
		{2, 20, relation([]int{5, 20}, turned...)}, {5, 20, relation([]int{2, 20}, r.Tuples...)}, {5, 1, relation([]int{1, 2}, turned...)}, {5, 0, relation([]int{0, 2}, turned...)},
	} {
		got, ok := impl.Rename(r, c.from, c.to)
		wantRelation(t, fmt.Sprint("Rename ", c.from, c.to), got, ok, c.want)
	}
	for _, c := range [][2]int{{2, 2}, {5, 5}, {2, 5}, {5, 2}, {3, 4}, {3, 3}, {3, 2}, {2, -1}, {2, 21}, {-1, 0}, {21, 20}} {
		got, ok := impl.Rename(r, c[0], c[1])
		refusedRelation(t, fmt.Sprint("Rename ", c), got, ok)
	}
}

func TestSameTuples(t *testing.T) {
	all := append(goodRelations(), bitRelations([]int{1, 4, 6})...)
	for _, a := range all {
		for _, b := range all {
			if same, ok := impl.SameTuples(a, b); same != sameRelation(a, b) || !ok {
				t.Errorf("SameTuples %v, %v: got %v, %v", a, b, same, ok)
			}
		}
		if same, ok := impl.SameTuples(a, copyRelation(a)); !same || !ok {
			t.Errorf("SameTuples of %v and its like: got %v, %v", a, same, ok)
		}
	}
}

// Each number of each tuple counts, and so does each name.
func TestSameTuplesSeesEachNumber(t *testing.T) {
	r := relation([]int{0, 1, 2, 3, 4, 5}, manyTuples(60, 6)...)
	for i := range r.Tuples {
		for k := 1; k < 6; k++ {
			other := copyRelation(r)
			other.Tuples[i][k]++
			if same, ok := impl.SameTuples(r, other); same || !ok {
				t.Errorf("SameTuples with one more at %d, %d: got %v, %v", i, k, same, ok)
			}
		}
		other := copyRelation(r)
		other.Tuples = slices.Delete(other.Tuples, i, i+1)
		if same, ok := impl.SameTuples(r, other); same || !ok {
			t.Errorf("SameTuples without tuple %d: got %v, %v", i, same, ok)
		}
	}
}

// Promise 19: a relation that is not good is refused by all, on either side, whatever else is asked.
func TestBadRelationsAreRefused(t *testing.T) {
	for _, bad := range badRelations() {
		for _, name := range append(slices.Clone(bad.Names[:min(3, len(bad.Names))]), 0, 4, 20) {
			got, ok := impl.Choose(bad, name, impl.CmEqual, 0)
			refusedRelation(t, fmt.Sprint("Choose ", bad, name), got, ok)
			got, ok = impl.Project(bad, []int{name})
			refusedRelation(t, fmt.Sprint("Project ", bad, name), got, ok)
			got, ok = impl.Rename(bad, name, 13)
			refusedRelation(t, fmt.Sprint("Rename ", bad, name), got, ok)
		}
		for _, names := range [][]int{nil, bad.Names} {
			got, ok := impl.Project(bad, names)
			refusedRelation(t, fmt.Sprint("Project ", bad, names), got, ok)
		}
		for _, other := range append(edgeRelations(), bad, relation(bad.Names)) {
			refusedByTwo(t, bad, other)
			refusedByTwo(t, other, bad)
		}
	}
}

func refusedByTwo(t *testing.T, a impl.Relation, b impl.Relation) {
	t.Helper()
	got, ok := impl.JoinTwo(a, b)
	refusedRelation(t, fmt.Sprint("JoinTwo ", a, b), got, ok)
	got, ok = impl.UnionOf(a, b)
	refusedRelation(t, fmt.Sprint("UnionOf ", a, b), got, ok)
	got, ok = impl.WithoutOf(a, b)
	refusedRelation(t, fmt.Sprint("WithoutOf ", a, b), got, ok)
	if same, ok := impl.SameTuples(a, b); same || ok {
		t.Errorf("SameTuples %v, %v: got %v, %v; want false, false", a, b, same, ok)
	}
}

// Nor is a relation mended by what is asked: the bad part may not be left out.
func TestBadRelationsAreNotMended(t *testing.T) {
	twice := relation([]int{1, 2}, []int{0, 0}, []int{0, 0}, []int{1, 0})
	got, ok := impl.Choose(twice, 1, impl.CmMore, 0)
	refusedRelation(t, "Choose beside a tuple that stands twice", got, ok)
	got, ok = impl.Project(relation([]int{1, 2}, []int{0, 1001}), []int{1})
	refusedRelation(t, "Project without a bad number", got, ok)
	got, ok = impl.Project(relation([]int{1, 21}, []int{0, 0}), []int{1})
	refusedRelation(t, "Project without a bad name", got, ok)
	got, ok = impl.Rename(relation([]int{1, 21}, []int{0, 0}), 21, 20)
	refusedRelation(t, "Rename of a bad name", got, ok)
	got, ok = impl.Rename(relation([]int{2, 1}, []int{0, 0}), 2, 0)
	refusedRelation(t, "Rename of names that fall", got, ok)
	got, ok = impl.WithoutOf(relation([]int{1}, []int{0}, []int{1001}), relation([]int{1}, []int{1}))
	refusedRelation(t, "WithoutOf of a bad number", got, ok)
	got, ok = impl.WithoutOf(relation([]int{1}, manyTuples(61, 1)...), relation([]int{1}, manyTuples(60, 1)...))
	refusedRelation(t, "WithoutOf of 61", got, ok)
}
