package tests

import (
	"slices"
	"testing"

	"loop.example/g00641/impl"
)

// lawRelations are relations of which the laws of promise 3 are asked.
func lawRelations() []impl.Relation {
	return slices.Concat(edgeRelations(), smallRelations(), bitRelations([]int{0, 9, 20}), madeRelations(60, 12))
}

func chosen(t *testing.T, r impl.Relation, name int, kind int, n int) impl.Relation {
	t.Helper()
	got, ok := impl.Choose(r, name, kind, n)
	if !ok {
		t.Fatalf("Choose refuses %v at %d, %d, %d", r, name, kind, n)
	}
	return got
}

func projected(t *testing.T, r impl.Relation, names []int) impl.Relation {
	t.Helper()
	got, ok := impl.Project(r, names)
	if !ok {
		t.Fatalf("Project refuses %v to %v", r, names)
	}
	return got
}

func wantAlike(t *testing.T, what string, a impl.Relation, b impl.Relation) {
	t.Helper()
	if !sameRelation(a, b) {
		t.Errorf("%s: %v is not %v", what, a, b)
	}
	if same, ok := impl.SameTuples(a, b); !same || !ok {
		t.Errorf("%s: SameTuples of %v and %v: %v, %v", what, a, b, same, ok)
	}
}

// Promise 3: choosing by a name and projecting to names that have it may change places.
func TestChoosingAndProjectingChangePlaces(t *testing.T) {
	for _, r := range lawRelations() {
		for _, names := range somesOf(r.Names) {
			for _, name := range names {
				for _, kind := range kinds {
					for _, n := range []int{-1000, 0, 1, 1000} {
						first := projected(t, chosen(t, r, name, kind, n), names)
						last := chosen(t, projected(t, r, names), name, kind, n)
						wantAlike(t, "choosing, projecting", first, last)
					}
				}
			}
		}
	}
}

// Projecting twice is projecting to the last names, and choosing twice asks not which comes first.
func TestProjectingTwiceAndChoosingTwice(t *testing.T) {
	for _, r := range append(edgeRelations(), madeRelations(40, 12)...) {
		for _, names := range somesOf(r.Names) {
			for _, fewer := range somesOf(names) {
				wantAlike(t, "projecting twice", projected(t, projected(t, r, names), fewer), projected(t, r, fewer))
			}
		}
		for _, a := range r.Names {
			for _, b := range r.Names {
				one := chosen(t, chosen(t, r, a, impl.CmLess, 1), b, impl.CmMore, -1)
				two := chosen(t, chosen(t, r, b, impl.CmMore, -1), a, impl.CmLess, 1)
				wantAlike(t, "choosing twice", one, two)
			}
		}
	}
}

// Promise 3: what was chosen and what was not make the whole again, and the three kinds take it apart.
func TestChosenAndNotChosenMakeTheWhole(t *testing.T) {
	for _, r := range lawRelations() {
		for _, name := range r.Names {
			for _, n := range []int{-1000, -1, 0, 1, 1000} {
				parts := 0
				for _, kind := range kinds {
					some := chosen(t, r, name, kind, n)
					parts += len(some.Tuples)
					rest, ok := impl.WithoutOf(r, some)
					whole, ok2 := impl.UnionOf(rest, some)
					other, ok3 := impl.UnionOf(some, rest)
					if !ok || !ok2 || !ok3 {
						t.Fatalf("%v by %v: %v, %v, %v", r, some, ok, ok2, ok3)
					}
					wantAlike(t, "the rest and what was chosen", whole, r)
					wantAlike(t, "what was chosen and the rest", other, r)
					none, ok := impl.WithoutOf(some, r)
					wantRelation(t, "what was chosen without all", none, ok, relation(r.Names))
				}
				if parts != len(r.Tuples) {
					t.Errorf("%v by %d at %d: parts of %d tuples", r, name, n, parts)
				}
			}
		}
	}
}

// Promise 3: a join does not ask which comes first, and has each tuple's numbers in both.
func TestJoinAsksNotWhichComesFirst(t *testing.T) {
	for _, l := range [][]impl.Relation{smallRelations(), edgeRelations(), madeRelations(80, 12)} {
		for _, a := range l {
			for _, b := range l {
				one, ok := impl.JoinTwo(a, b)
				two, ok2 := impl.JoinTwo(b, a)
				if ok != ok2 {
					t.Fatalf("%v with %v: %v, the other first: %v", a, b, ok, ok2)
				}
				if !ok {
					refusedRelation(t, "a join", one, ok)
					refusedRelation(t, "a join, the other first", two, ok2)
					continue
				}
				wantAlike(t, "a join", one, two)
				wantInBoth(t, one, a)
				wantInBoth(t, one, b)
			}
		}
	}
}

// wantInBoth asks that each tuple of the join has the numbers of one of a's.
func wantInBoth(t *testing.T, join impl.Relation, a impl.Relation) {
	t.Helper()
	for _, tuple := range projectedTo(join, a.Names).Tuples {
		if !tupleStands(a, tuple) {
			t.Errorf("%v has %v, which is not in %v", join, tuple, a)
		}
	}
	some := projected(t, join, a.Names)
	rest, ok := impl.WithoutOf(some, a)
	wantRelation(t, "what a join has that its part has not", rest, ok, relation(a.Names))
}

// Promise 3: choosing by a name of the one ahead of the join tells the same as behind it.
func TestChoosingComesAheadOfJoin(t *testing.T) {
	for _, l := range [][]impl.Relation{smallRelations(), edgeRelations(), madeRelations(60, 12)} {
		for _, a := range l {
			for _, b := range l {
				join, ok := impl.JoinTwo(a, b)
				if !ok {
					continue
				}
				for _, name := range a.Names {
					for _, kind := range kinds {
						behind := chosen(t, join, name, kind, 0)
						ahead, ok := impl.JoinTwo(chosen(t, a, name, kind, 0), b)
						wantRelation(t, "choosing ahead of a join", ahead, ok, behind)
						ahead, ok = impl.JoinTwo(b, chosen(t, a, name, kind, 0))
						wantRelation(t, "choosing in the second of a join", ahead, ok, behind)
					}
				}
			}
		}
	}
}

// A relation joined with a part of its columns is itself, and three joins ask not which come first.
func TestJoinsOfPartsAndOfThree(t *testing.T) {
	for _, r := range lawRelations() {
		for _, names := range somesOf(r.Names) {
			got, ok := impl.JoinTwo(r, projected(t, r, names))
			wantRelation(t, "a join with a part of it", got, ok, r)
		}
	}
	l := append(bitRelations([]int{0, 9}), bitRelations([]int{9, 20})...)
	for _, a := range l {
		for _, b := range l {
			for _, c := range l {
				ab, ok := impl.JoinTwo(a, b)
				bc, ok2 := impl.JoinTwo(b, c)
				one, ok3 := impl.JoinTwo(ab, c)
				two, ok4 := impl.JoinTwo(a, bc)
				if !ok || !ok2 || !ok3 || !ok4 {
					t.Fatalf("%v, %v, %v: %v, %v, %v, %v", a, b, c, ok, ok2, ok3, ok4)
				}
				wantAlike(t, "a join of three", one, two)
			}
		}
	}
}

// A join of two with the same names is what both have: what is left of the one without what is left without the other.
func TestJoinOfTheSameNames(t *testing.T) {
	for _, a := range bitRelations([]int{0, 9, 20}) {
		for _, b := range bitRelations([]int{0, 9, 20}) {
			only, ok := impl.WithoutOf(a, b)
			both, ok2 := impl.WithoutOf(a, only)
			join, ok3 := impl.JoinTwo(a, b)
			if !ok || !ok2 || !ok3 {
				t.Fatalf("%v, %v: %v, %v, %v", a, b, ok, ok2, ok3)
			}
			wantAlike(t, "a join of the same names", join, both)
		}
	}
}
