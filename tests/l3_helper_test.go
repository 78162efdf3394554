package tests

import (
	"slices"
	"testing"

	"loop.example/g00641/impl"
)

func relation(names []int, tuples ...[]int) impl.Relation {
	return impl.Relation{Names: names, Tuples: tuples}
}

func sameTuple(a []int, b []int) bool {
	return slices.Equal(a, b)
}

func sameRelation(a impl.Relation, b impl.Relation) bool {
	return slices.Equal(a.Names, b.Names) && slices.EqualFunc(a.Tuples, b.Tuples, sameTuple)
}

func copyTuples(l [][]int) [][]int {
	all := make([][]int, len(l))
	for i, tuple := range l {
		all[i] = slices.Clone(tuple)
	}
	return all
}

func copyRelation(r impl.Relation) impl.Relation {
	return impl.Relation{Names: slices.Clone(r.Names), Tuples: copyTuples(r.Tuples)}
}

func wantRelation(t *testing.T, what string, got impl.Relation, ok bool, want impl.Relation) {
	t.Helper()
	if !sameRelation(got, want) || !ok {
		t.Errorf("%s: got %v, %v; want %v, true", what, got, ok, want)
	}
	if !impl.GoodRelation(got) {
		t.Errorf("%s: %v is not good", what, got)
	}
}

func refusedRelation(t *testing.T, what string, got impl.Relation, ok bool) {
	t.Helper()
	if len(got.Names) != 0 || len(got.Tuples) != 0 || ok {
		t.Errorf("%s: got %v, %v; want the zero relation, false", what, got, ok)
	}
}

// wantOrNone asks for the zero answer where what is wanted has more names or tuples than a relation may.
func wantOrNone(t *testing.T, what string, got impl.Relation, ok bool, want impl.Relation) {
	t.Helper()
	if len(want.Names) > 6 || len(want.Tuples) > 60 {
		refusedRelation(t, what, got, ok)
		return
	}
	wantRelation(t, what, got, ok, want)
}

// A fact is a tuple as its numbers by their names. The tests say by facts what
// comes of relations, so that no fault of columns and their order can hide.
type fact map[int]int

func factsOf(r impl.Relation) []fact {
	all := []fact{}
	for _, tuple := range r.Tuples {
		f := fact{}
		for i, name := range r.Names {
			f[name] = tuple[i]
		}
		all = append(all, f)
	}
	return all
}

// ofFacts lays facts under names: rising names, tuples in order, none twice.
func ofFacts(names []int, facts []fact) impl.Relation {
	r := impl.Relation{Names: slices.Clone(names), Tuples: [][]int{}}
	slices.Sort(r.Names)
	r.Names = slices.Compact(r.Names)
	for _, f := range facts {
		tuple := []int{}
		for _, name := range r.Names {
			tuple = append(tuple, f[name])
		}
		r.Tuples = append(r.Tuples, tuple)
	}
	slices.SortFunc(r.Tuples, slices.Compare)
	r.Tuples = slices.CompactFunc(r.Tuples, sameTuple)
	return r
}

func chosenBy(r impl.Relation, name int, kind int, n int) impl.Relation {
	return ofFacts(r.Names, slices.DeleteFunc(factsOf(r), func(f fact) bool { return !isSo(kind, f[name], n) }))
}

func projectedTo(r impl.Relation, names []int) impl.Relation {
	return ofFacts(names, factsOf(r))
}

func joinedOf(a impl.Relation, b impl.Relation) impl.Relation {
	all := []fact{}
	for _, f := range factsOf(a) {
		for _, g := range factsOf(b) {
			both, alike := fact{}, true
			for name, n := range f {
				both[name] = n
			}
			for name, n := range g {
				old, there := both[name]
				alike = alike && (!there || old == n)
				both[name] = n
			}
			if alike {
				all = append(all, both)
			}
		}
	}
	return ofFacts(slices.Concat(a.Names, b.Names), all)
}

func unitedOf(a impl.Relation, b impl.Relation) impl.Relation {
	return ofFacts(a.Names, append(factsOf(a), factsOf(b)...))
}

func leftOf(a impl.Relation, b impl.Relation) impl.Relation {
	all := copyRelation(a)
	all.Tuples = slices.DeleteFunc(all.Tuples, func(tuple []int) bool { return tupleStands(b, tuple) })
	return all
}

func renamedOf(r impl.Relation, from int, to int) impl.Relation {
	names, facts := slices.Clone(r.Names), factsOf(r)
	names[slices.Index(names, from)] = to
	for _, f := range facts {
		f[to] = f[from]
	}
	return ofFacts(names, facts)
}

func tupleStands(r impl.Relation, tuple []int) bool {
	return slices.ContainsFunc(r.Tuples, func(other []int) bool { return slices.Equal(other, tuple) })
}

// somesOf are all lists of some of l, in their order, none and all among them.
func somesOf[T any](l []T) [][]T {
	all := [][]T{}
	for some := range 1 << len(l) {
		part := []T{}
		for i, x := range l {
			if some>>i&1 == 1 {
				part = append(part, x)
			}
		}
		all = append(all, part)
	}
	return all
}

// bitTuples are all tuples of so many 0 and 1, in order.
func bitTuples(wide int) [][]int {
	all := [][]int{}
	for bits := range 1 << wide {
		tuple := []int{}
		for i := range wide {
			tuple = append(tuple, bits>>(wide-1-i)&1)
		}
		all = append(all, tuple)
	}
	return all
}

// bitRelations are all relations of 0 and 1 with these names.
func bitRelations(names []int) []impl.Relation {
	all := []impl.Relation{}
	for _, tuples := range somesOf(bitTuples(len(names))) {
		all = append(all, copyRelation(relation(names, tuples...)))
	}
	return all
}

// smallRelations are all relations of 0 and 1 with at most two of the names 0, 9 and 20.
func smallRelations() []impl.Relation {
	all := []impl.Relation{}
	for _, names := range somesOf([]int{0, 9, 20}) {
		if len(names) < 3 {
			all = append(all, bitRelations(names)...)
		}
	}
	return all
}

// manyTuples are so many tuples of so many numbers, in order: the first number leads, the others go up and down.
func manyTuples(many int, wide int) [][]int {
	all := [][]int{}
	for i := range many {
		tuple := []int{}
		for k := range wide {
			tuple = append(tuple, (i*7*k+k)%5-2)
		}
		tuple[0] = i - 30
		all = append(all, tuple)
	}
	return all
}

// madeRelations are so many relations of up to most tuples, by a fixed rule that spreads them: of few numbers, so that many are alike.
func madeRelations(many int, most int) []impl.Relation {
	seed := uint64(11)
	next := func(below int) int {
		seed = seed*6364136223846793005 + 1442695040888963407
		return int(seed>>33) % below
	}
	all := []impl.Relation{}
	for range many {
		names, facts := []int{}, []fact{}
		for range next(7) {
			names = append(names, []int{0, 3, 4, 9, 13, 20, 1, 19}[next(8)])
		}
		for range next(most + 1) {
			f := fact{}
			for _, name := range names {
				f[name] = next(4) - 1
			}
			facts = append(facts, f)
		}
		all = append(all, ofFacts(names, facts))
	}
	return all
}

// edgeRelations stand at the limits that the document names.
func edgeRelations() []impl.Relation {
	six := []int{0, 1, 2, 3, 4, 5}
	return []impl.Relation{
		{}, relation([]int{}), relation(nil, []int{}), relation([]int{}, nil),
		relation([]int{0}), relation([]int{20}), relation([]int{0, 20}, []int{-1000, 1000}, []int{1000, -1000}),
		relation([]int{7}, []int{-1000}, []int{-999}, []int{-1}, []int{0}, []int{1}, []int{999}, []int{1000}),
		relation(six), relation(six, []int{0, 0, 0, 0, 0, 0}), relation([]int{15, 16, 17, 18, 19, 20}, repeated(-1000, 6), repeated(1000, 6)),
		relation(six, manyTuples(60, 6)...), relation([]int{4}, manyTuples(60, 1)...), relation([]int{4, 5}, manyTuples(59, 2)...),
		relation([]int{1, 2}, []int{0, 0}, []int{0, 1}, []int{1, -1000}, []int{1, 1000}),
	}
}

func goodRelations() []impl.Relation {
	return slices.Concat(edgeRelations(), smallRelations(), madeRelations(40, 12))
}

// badTuplesOf are lists of tuples that no relation of so many names may have.
func badTuplesOf(wide int) [][][]int {
	good := repeated(0, wide)
	all := [][][]int{
		{good, good}, {slices.Concat(good, []int{0})}, {slices.Concat(good, []int{0, 0})}, {good, slices.Concat(good, []int{1})},
		{repeated(0, 1000)},
	}
	if wide == 0 {
		return append(all, [][]int{nil, {}}, slices.Repeat([][]int{{}}, 61))
	}
	all = append(all, [][]int{{}}, [][]int{nil}, [][]int{good[1:]}, [][]int{good, repeated(1, wide-1)}, manyTuples(61, wide), manyTuples(400, wide))
	for _, n := range slices.Concat([]int{-1001, 1001}, extremes) {
		for at := range wide {
			bad := slices.Clone(good)
			bad[at] = n
			all = append(all, [][]int{bad}, [][]int{repeated(-1000, wide), bad}, [][]int{bad, repeated(1000, wide)})
		}
	}
	for at := range wide {
		more := slices.Clone(good)
		more[at] = 1
		all = append(all, [][]int{more, good}, [][]int{good, more, good}, [][]int{good, more, more}, [][]int{repeated(-1, wide), more, good})
	}
	return all
}

func badNames() [][]int {
	all := [][]int{
		{0, 1, 2, 3, 4, 5, 6}, {0, 2, 4, 6, 8, 10, 20}, {14, 15, 16, 17, 18, 19, 20}, repeated(3, 7), make([]int, 1000),
		{1, 0}, {20, 0}, {0, 0}, {20, 20}, {0, 1, 1}, {0, 2, 1}, {1, 0, 2}, {5, 4, 3, 2, 1, 0}, {0, 1, 2, 3, 4, 4},
	}
	for _, name := range slices.Concat([]int{-1, -20, 21, 22}, extremes) {
		all = append(all, []int{name})
		if name < 0 {
			all = append(all, []int{name, 5}, []int{name, 0, 1, 2, 3, 4})
		} else {
			all = append(all, []int{5, name}, []int{0, 1, 2, 3, 4, name})
		}
	}
	return all
}

func badRelations() []impl.Relation {
	all := []impl.Relation{}
	for _, names := range badNames() {
		all = append(all, relation(names), relation(names, repeated(0, len(names))))
	}
	for _, names := range [][]int{{}, {0}, {4, 5}, {0, 1, 20}, {0, 1, 2, 3, 4, 5}} {
		for _, tuples := range badTuplesOf(len(names)) {
			all = append(all, relation(names, tuples...))
		}
	}
	return all
}
