package tests

import (
	"slices"
	"testing"

	"loop.example/g00641/impl"
)

func closureOf(t *testing.T, x theory, some []int) []int {
	t.Helper()
	told, ok := impl.ClosureOf(x.cols, x.l, some)
	if !ok {
		t.Fatalf("ClosureOf refuses %v of %v", some, x)
	}
	return told
}

func implied(t *testing.T, x theory, d impl.Dep) bool {
	t.Helper()
	told, ok := impl.Implies(x.cols, x.l, d)
	if !ok {
		t.Fatalf("Implies refuses %v of %v", d, x)
	}
	return told
}

func holds(t *testing.T, r impl.Relation, d impl.Dep) bool {
	t.Helper()
	told, ok := impl.HoldsIn(r, d)
	if !ok {
		t.Fatalf("HoldsIn refuses %v of %v", d, r)
	}
	return told
}

func allHold(t *testing.T, r impl.Relation, l []impl.Dep) bool {
	t.Helper()
	return !slices.ContainsFunc(l, func(d impl.Dep) bool { return !holds(t, r, d) })
}

// grown takes in tuples as they come, of few numbers, as long as all sentences hold with each.
func grown(t *testing.T, x theory, seed uint64) impl.Relation {
	t.Helper()
	next := spreading(seed)
	r := relation(upTo(x.cols))
	for range 40 {
		tuple := []int{}
		for range x.cols {
			tuple = append(tuple, next(3)-1)
		}
		more := copyRelation(r)
		more.Tuples = append(more.Tuples, tuple)
		slices.SortFunc(more.Tuples, slices.Compare)
		more.Tuples = slices.CompactFunc(more.Tuples, sameTuple)
		if allHold(t, more, x.l) {
			r = more
		}
	}
	return r
}

// Promise 5: what is implied holds in all relations in which the sentences hold: all of three columns of 0 and 1.
func TestWhatFollowsHoldsWhereTheSentencesHold(t *testing.T) {
	relations := bitRelations(upTo(3))
	asked := allDeps(3)
	theories := slices.DeleteFunc(append(edgeTheories(), madeTheories(60)...), func(x theory) bool { return x.cols != 3 })
	for _, d := range asked {
		theories = append(theories, theory{3, []impl.Dep{d}})
	}
	for _, x := range theories {
		fitting := slices.DeleteFunc(slices.Clone(relations), func(r impl.Relation) bool { return !allHold(t, r, x.l) })
		if len(fitting) < 9 {
			t.Fatalf("%v hold in %d relations: none, and each of one tuple, are too few", x, len(fitting))
		}
		for _, d := range asked {
			everywhere := !slices.ContainsFunc(fitting, func(r impl.Relation) bool { return !holds(t, r, d) })
			if told := implied(t, x, d); told != everywhere {
				t.Errorf("%v of %v: implied is %v, held everywhere is %v", d, x, told, everywhere)
			}
		}
	}
}

// Promise 5: so it does in greater ones, of more columns and numbers.
func TestWhatFollowsHoldsInGreaterRelations(t *testing.T) {
	most := 0
	for i, x := range append(edgeTheories(), madeTheories(48)...) {
		r := grown(t, x, uint64(i))
		most = max(most, len(r.Tuples))
		if !impl.GoodRelation(r) || !allHold(t, r, x.l) {
			t.Fatalf("%v was not to be grown for %v", r, x)
		}
		for _, d := range allDeps(x.cols) {
			if implied(t, x, d) && !holds(t, r, d) {
				t.Errorf("%v follows from %v, and does not hold in %v", d, x, r)
			}
		}
	}
	if most < 20 {
		t.Errorf("at most %d tuples were tried", most)
	}
}

// Promise 5: of what does not follow there is a relation that shows it, and of what follows there is none.
func TestWhatDoesNotFollowIsShown(t *testing.T) {
	for _, x := range append(edgeTheories(), madeTheories(120)...) {
		for _, d := range allDeps(x.cols) {
			r, ok := impl.WitnessFor(x.cols, x.l, d)
			if ok == implied(t, x, d) {
				t.Fatalf("%v of %v: implied is %v, and shown is %v", d, x, !ok, ok)
			}
			if !ok {
				refusedRelation(t, "WitnessFor", r, ok)
				continue
			}
			if !impl.GoodRelation(r) || !allHold(t, r, x.l) || holds(t, r, d) {
				t.Errorf("%v does not show that %v does not follow from %v", r, d, x)
			}
		}
	}
}

// Promise 5: what some columns tell has them, tells no more than that, and grows with them.
func TestClosureHasItsListAndIsItsOwn(t *testing.T) {
	for _, x := range goodTheories() {
		for _, some := range somesOf(upTo(x.cols)) {
			told := closureOf(t, x, some)
			if bitsOf(told)&bitsOf(some) != bitsOf(some) {
				t.Errorf("what %v tell by %v is %v", some, x, told)
			}
			wantList(t, "what is told again", closureOf(t, x, told), true, told)
			for col := range x.cols {
				more := closureOf(t, x, columnsIn(bitsOf(some)|1<<col))
				if bitsOf(more)&bitsOf(told) != bitsOf(told) {
					t.Errorf("what %v tell by %v is %v, and with %d it is %v", some, x, told, col, more)
				}
			}
			if !implied(t, x, dep(some, told)) {
				t.Errorf("%v tell %v by %v, and that is not implied", some, told, x)
			}
		}
	}
}

// Promise 5: each sentence follows from all of them, whatever else stands there.
func TestSentencesFollowFromThemselves(t *testing.T) {
	for _, x := range goodTheories() {
		for i, d := range x.l {
			if !implied(t, x, d) || !implied(t, theory{x.cols, x.l[i : i+1]}, d) {
				t.Errorf("%v does not follow from %v", d, x)
			}
		}
	}
}

// Promise 5: the order of the sentences is not asked for.
func TestSentencesInAnyOrder(t *testing.T) {
	for _, x := range append(edgeTheories(), madeTheories(120)...) {
		turned := theory{x.cols, slices.Clone(x.l)}
		slices.Reverse(turned.l)
		for _, some := range somesOf(upTo(x.cols)) {
			wantList(t, "what is told, the last sentence first", closureOf(t, turned, some), true, closureOf(t, x, some))
		}
		keys, ok := impl.KeysFor(x.cols, x.l)
		other, ok2 := impl.KeysFor(turned.cols, turned.l)
		if !ok {
			t.Fatalf("KeysFor refuses %v", x)
		}
		wantListsOf(t, "keys, the last sentence first", other, ok2, keys)
	}
}

// Promise 5: a key tells all columns, no list of fewer of its columns does, and what tells all has a key. They stand by their numbers.
func TestKeysTellAllAndNoFewerDo(t *testing.T) {
	for _, x := range goodTheories() {
		keys, ok := impl.KeysFor(x.cols, x.l)
		if !ok || len(keys) == 0 {
			t.Fatalf("KeysFor of %v: %v, %v", x, keys, ok)
		}
		for i, key := range keys {
			wantList(t, "what a key tells", closureOf(t, x, key), true, upTo(x.cols))
			for _, fewer := range somesOf(key) {
				if len(fewer) < len(key) && len(closureOf(t, x, fewer)) == x.cols {
					t.Errorf("%v of %v is no key: %v will do", key, x, fewer)
				}
			}
			if i > 0 && bitsOf(keys[i-1]) >= bitsOf(key) {
				t.Errorf("the keys of %v do not rise: %v", x, keys)
			}
		}
		for _, some := range somesOf(upTo(x.cols)) {
			hasKey := slices.ContainsFunc(keys, func(key []int) bool { return bitsOf(key)&bitsOf(some) == bitsOf(key) })
			if hasKey != (len(closureOf(t, x, some)) == x.cols) {
				t.Errorf("%v of %v: has one of %v is %v", some, x, keys, hasKey)
			}
		}
	}
}

// Promise 5: all sentences follow from those that are left, and of these none from the others; left as they are they stay.
func TestCoverTellsTheSame(t *testing.T) {
	for _, x := range goodTheories() {
		l, ok := impl.CoverOf(x.cols, x.l)
		if !ok || !impl.GoodDeps(x.cols, l) {
			t.Fatalf("CoverOf of %v: %v, %v", x, l, ok)
		}
		left := theory{x.cols, l}
		for _, d := range x.l {
			if !implied(t, left, d) {
				t.Errorf("%v of %v does not follow from %v", d, x, l)
			}
		}
		for i, d := range l {
			if implied(t, theory{x.cols, slices.Concat(l[:i], l[i+1:])}, d) {
				t.Errorf("%v of %v follows from the others", d, l)
			}
		}
		for _, some := range somesOf(upTo(x.cols)) {
			wantList(t, "what is told by the cover", closureOf(t, left, some), true, closureOf(t, x, some))
		}
		again, ok := impl.CoverOf(x.cols, l)
		wantDeps(t, "the cover of a cover", again, ok, l)
	}
}

// Promise 5: a sentence holds in a relation just where putting its columns together leaves as many tuples as those of From.
func TestHoldsInByProjecting(t *testing.T) {
	for _, r := range append(edgeRelations(), madeRelations(60, 12)...) {
		for _, from := range somesOf(r.Names) {
			for _, to := range somesOf(r.Names) {
				both := onceEachOf(append(slices.Clone(from), to...))
				alike := len(projected(t, r, both).Tuples) == len(projected(t, r, from).Tuples)
				if told := holds(t, r, dep(from, to)); told != alike {
					t.Errorf("%v to %v in %v: holds is %v", from, to, r, told)
				}
			}
		}
	}
}

func onceEachOf(l []int) []int {
	slices.Sort(l)
	return slices.Compact(l)
}
