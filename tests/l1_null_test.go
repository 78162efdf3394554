package tests

import (
	"fmt"
	"math"
	"slices"
	"testing"

	"loop.example/g00641/impl"
)

var truths = []int{impl.ThFalse, impl.ThUnknown, impl.ThTrue}

var kinds = []int{impl.CmEqual, impl.CmLess, impl.CmMore}

// wrongSmall are no truths, and no kinds of Compare either.
var wrongSmall = append([]int{-2, -1, 3, 4, 255, 256, 258}, extremes...)

var null = impl.Value{Null: true}

// known are numbers at the edges, about 0 and between.
var known = []int{-1000, -999, -7, -1, 0, 1, 2, 7, 999, 1000}

func number(n int) impl.Value {
	return impl.Value{N: n}
}

func goodValues() []impl.Value {
	l := []impl.Value{null}
	for _, n := range known {
		l = append(l, number(n))
	}
	return l
}

func badValues() []impl.Value {
	l := []impl.Value{number(-1001), number(1001)}
	for _, n := range []int{-1001, -1000, -1, 1, 2, 1000, 1001} {
		l = append(l, impl.Value{Null: true, N: n})
	}
	for _, n := range extremes {
		l = append(l, number(n), impl.Value{Null: true, N: n})
	}
	return l
}

// Of known numbers nothing is unknown.
func truthOf(holds bool) int {
	if holds {
		return impl.ThTrue
	}
	return impl.ThFalse
}

// The tests say for themselves what is so of two numbers, so that a fault of Compare cannot hide.
func isSo(kind int, a int, b int) bool {
	switch kind {
	case impl.CmEqual:
		return a == b
	case impl.CmLess:
		return a < b
	}
	return a > b
}

func TestNamesOfChapter1(t *testing.T) {
	if impl.ThFalse != 0 || impl.ThUnknown != 1 || impl.ThTrue != 2 {
		t.Error("truths are", impl.ThFalse, impl.ThUnknown, impl.ThTrue)
	}
	if impl.CmEqual != 0 || impl.CmLess != 1 || impl.CmMore != 2 {
		t.Error("kinds are", impl.CmEqual, impl.CmLess, impl.CmMore)
	}
}

func TestGoodValue(t *testing.T) {
	for n := -1000; n <= 1000; n++ {
		if !impl.GoodValue(number(n)) {
			t.Errorf("%d is not good", n)
		}
		if got, want := impl.GoodValue(impl.Value{Null: true, N: n}), n == 0; got != want {
			t.Errorf("Null with N %d: good is %v", n, got)
		}
	}
	for _, v := range badValues() {
		if impl.GoodValue(v) {
			t.Errorf("%+v is good", v)
		}
	}
}

func TestAndOrNotOfTruths(t *testing.T) {
	for _, a := range truths {
		not, ok := impl.NotOf(a)
		wantInt(t, fmt.Sprint("NotOf ", a), not, ok, 2-a)
		for _, b := range truths {
			and, ok := impl.AndOf(a, b)
			wantInt(t, fmt.Sprint("AndOf ", a, b), and, ok, min(a, b))
			or, ok := impl.OrOf(a, b)
			wantInt(t, fmt.Sprint("OrOf ", a, b), or, ok, max(a, b))
		}
	}
}

// Promise 1: and and or turn about by not.
func TestAndAndOrTurnAboutByNot(t *testing.T) {
	not := func(a int) int {
		n, ok := impl.NotOf(a)
		if !ok {
			t.Fatal("NotOf refuses", a)
		}
		return n
	}
	for _, a := range truths {
		if not(not(a)) != a {
			t.Errorf("not not %d is %d", a, not(not(a)))
		}
		for _, b := range truths {
			and, ok := impl.AndOf(a, b)
			or, ok2 := impl.OrOf(not(a), not(b))
			if !ok || !ok2 || not(and) != or {
				t.Errorf("not (%d and %d) is %d, not so either is %d", a, b, not(and), or)
			}
			or, ok = impl.OrOf(a, b)
			and, ok2 = impl.AndOf(not(a), not(b))
			if !ok || !ok2 || not(or) != and {
				t.Errorf("not (%d or %d) is %d, not so both is %d", a, b, not(or), and)
			}
		}
	}
}

func TestWrongTruthsAreRefused(t *testing.T) {
	for _, a := range wrongSmall {
		n, ok := impl.NotOf(a)
		refusedInt(t, fmt.Sprint("NotOf ", a), n, ok)
		for _, b := range slices.Concat(truths, wrongSmall) {
			n, ok = impl.AndOf(a, b)
			refusedInt(t, fmt.Sprint("AndOf ", a, b), n, ok)
			n, ok = impl.AndOf(b, a)
			refusedInt(t, fmt.Sprint("AndOf ", b, a), n, ok)
			n, ok = impl.OrOf(a, b)
			refusedInt(t, fmt.Sprint("OrOf ", a, b), n, ok)
			n, ok = impl.OrOf(b, a)
			refusedInt(t, fmt.Sprint("OrOf ", b, a), n, ok)
		}
	}
}

func TestCompareOfKnownValues(t *testing.T) {
	for _, kind := range kinds {
		for _, a := range known {
			for _, b := range known {
				n, ok := impl.Compare(kind, number(a), number(b))
				wantInt(t, fmt.Sprint("Compare ", kind, a, b), n, ok, truthOf(isSo(kind, a, b)))
			}
		}
	}
}

func TestCompareWithNull(t *testing.T) {
	for _, kind := range kinds {
		for _, v := range goodValues() {
			n, ok := impl.Compare(kind, null, v)
			wantInt(t, fmt.Sprint("Compare ", kind, null, v), n, ok, impl.ThUnknown)
			n, ok = impl.Compare(kind, v, null)
			wantInt(t, fmt.Sprint("Compare ", kind, v, null), n, ok, impl.ThUnknown)
		}
	}
}

func TestCompareRefuses(t *testing.T) {
	for _, a := range goodValues() {
		for _, b := range goodValues() {
			for _, kind := range wrongSmall {
				n, ok := impl.Compare(kind, a, b)
				refusedInt(t, fmt.Sprint("Compare ", kind, a, b), n, ok)
			}
		}
	}
	for _, kind := range slices.Concat(kinds, wrongSmall) {
		for _, bad := range badValues() {
			for _, v := range append(goodValues(), bad) {
				n, ok := impl.Compare(kind, bad, v)
				refusedInt(t, fmt.Sprint("Compare ", kind, bad, v), n, ok)
				n, ok = impl.Compare(kind, v, bad)
				refusedInt(t, fmt.Sprint("Compare ", kind, v, bad), n, ok)
			}
		}
	}
}

// mayBe are the numbers that a good value may be, as FillsOf tells them.
func mayBe(t *testing.T, v impl.Value) []int {
	t.Helper()
	l, ok := impl.FillsOf(v, known)
	if !ok || len(l) != len(known) {
		t.Fatalf("FillsOf %+v: %v, %v", v, l, ok)
	}
	return l
}

// Promise 1: what Compare tells is so however what is missing is filled.
func TestToldIsSoHoweverFilled(t *testing.T) {
	for _, kind := range kinds {
		for _, a := range goodValues() {
			for _, b := range goodValues() {
				told, ok := impl.Compare(kind, a, b)
				if !ok {
					t.Fatal("Compare refuses", kind, a, b)
				}
				if told == impl.ThUnknown {
					continue
				}
				for _, x := range mayBe(t, a) {
					for _, y := range mayBe(t, b) {
						if truthOf(isSo(kind, x, y)) != told {
							t.Errorf("Compare %d of %v and %v tells %d, not so for %d and %d", kind, a, b, told, x, y)
						}
					}
				}
			}
		}
	}
}

// Promise 1, of sentences put together: v less than 1, and (or) not v more than w.
func TestTogetherToldIsSoHoweverFilled(t *testing.T) {
	for _, v := range goodValues() {
		for _, w := range goodValues() {
			less, _ := impl.Compare(impl.CmLess, v, number(1))
			more, _ := impl.Compare(impl.CmMore, v, w)
			notMore, _ := impl.NotOf(more)
			and, ok := impl.AndOf(less, notMore)
			all, ok2 := impl.AllOf([]int{less, notMore})
			or, ok3 := impl.OrOf(less, notMore)
			if !ok || !ok2 || !ok3 || and != all {
				t.Fatal("of", v, w, ":", and, ok, all, ok2, or, ok3)
			}
			for _, x := range mayBe(t, v) {
				for _, y := range mayBe(t, w) {
					if and != impl.ThUnknown && and != truthOf(x < 1 && x <= y) {
						t.Error("and of", v, w, "is", and, ", not so for", x, y)
					}
					if or != impl.ThUnknown && or != truthOf(x < 1 || x <= y) {
						t.Error("or of", v, w, "is", or, ", not so for", x, y)
					}
				}
			}
		}
	}
}

func TestSameValue(t *testing.T) {
	for i, a := range goodValues() {
		for k, b := range goodValues() {
			same, ok := impl.SameValue(a, b)
			if !ok || same != (i == k) {
				t.Errorf("SameValue %+v, %+v: %v, %v", a, b, same, ok)
			}
		}
	}
	for _, bad := range badValues() {
		for _, v := range append(goodValues(), bad) {
			if same, ok := impl.SameValue(bad, v); same || ok {
				t.Errorf("SameValue %+v, %+v: %v, %v", bad, v, same, ok)
			}
			if same, ok := impl.SameValue(v, bad); same || ok {
				t.Errorf("SameValue %+v, %+v: %v, %v", v, bad, same, ok)
			}
		}
	}
}

func TestAllOfNoneAndFew(t *testing.T) {
	n, ok := impl.AllOf(nil)
	wantInt(t, "AllOf nil", n, ok, impl.ThTrue)
	n, ok = impl.AllOf([]int{})
	wantInt(t, "AllOf none", n, ok, impl.ThTrue)
	for _, a := range truths {
		n, ok = impl.AllOf([]int{a})
		wantInt(t, fmt.Sprint("AllOf ", a), n, ok, a)
		for _, b := range truths {
			n, ok = impl.AllOf([]int{a, b})
			wantInt(t, fmt.Sprint("AllOf ", a, b), n, ok, min(a, b))
			for _, c := range truths {
				n, ok = impl.AllOf([]int{a, b, c})
				wantInt(t, fmt.Sprint("AllOf ", a, b, c), n, ok, min(a, b, c))
			}
		}
	}
}

func TestAllOfAtItsLimit(t *testing.T) {
	for _, a := range truths {
		n, ok := impl.AllOf(repeated(a, 20))
		wantInt(t, fmt.Sprint("AllOf 20 times ", a), n, ok, a)
		for _, many := range []int{21, 22, 40, 1000} {
			n, ok = impl.AllOf(repeated(a, many))
			refusedInt(t, fmt.Sprint("AllOf ", many, " times ", a), n, ok)
		}
		for _, b := range truths {
			for at := range 20 {
				l := repeated(a, 20)
				l[at] = b
				n, ok = impl.AllOf(l)
				wantInt(t, fmt.Sprint("AllOf ", l), n, ok, min(a, b))
			}
		}
	}
}

func TestAllOfRefusesWrongTruths(t *testing.T) {
	for _, wrong := range wrongSmall {
		for _, a := range truths {
			for _, many := range []int{1, 2, 3, 19, 20, 21} {
				for at := range many {
					l := repeated(a, many)
					l[at] = wrong
					n, ok := impl.AllOf(l)
					refusedInt(t, fmt.Sprint("AllOf ", l), n, ok)
				}
			}
		}
	}
}

func TestFillsOfNullAndNumbers(t *testing.T) {
	for _, fills := range [][]int{nil, {}, {0}, {-1000}, {1000}, {5, 5}, {3, 1, 2, 1}, known} {
		l, ok := impl.FillsOf(null, fills)
		wantList(t, fmt.Sprint("FillsOf Null, ", fills), l, ok, fills)
		for _, n := range known {
			l, ok = impl.FillsOf(number(n), fills)
			wantList(t, fmt.Sprint("FillsOf ", n, fills), l, ok, repeated(n, len(fills)))
		}
	}
}

func TestFillsOfAtItsLimits(t *testing.T) {
	for _, v := range goodValues() {
		for _, fill := range []int{-1000, 0, 1000} {
			want := repeated(v.N, 10)
			if v.Null {
				want = repeated(fill, 10)
			}
			l, ok := impl.FillsOf(v, repeated(fill, 10))
			wantList(t, fmt.Sprint("FillsOf ", v, ", 10 times ", fill), l, ok, want)
			for _, many := range []int{11, 12, 1000} {
				l, ok = impl.FillsOf(v, repeated(fill, many))
				refusedList(t, fmt.Sprint("FillsOf ", v, many, " times ", fill), l, ok)
			}
		}
		for _, wrong := range append([]int{-1001, 1001}, extremes...) {
			for _, many := range []int{1, 2, 10} {
				for at := range many {
					fills := repeated(4, many)
					fills[at] = wrong
					l, ok := impl.FillsOf(v, fills)
					refusedList(t, fmt.Sprint("FillsOf ", v, fills), l, ok)
				}
			}
		}
	}
}

func TestFillsOfRefusesBadValues(t *testing.T) {
	for _, bad := range badValues() {
		for _, fills := range [][]int{nil, {1, 2}, known} {
			l, ok := impl.FillsOf(bad, fills)
			refusedList(t, fmt.Sprint("FillsOf ", bad, fills), l, ok)
		}
	}
}

// Promise 19: what lies behind a list's length is neither read nor written, and the list itself stays.
func TestListsOfChapter1StayAsTheyWere(t *testing.T) {
	for _, behind := range []int{0, 1, 2, 9, -1001, math.MinInt, math.MaxInt} {
		for _, given := range [][]int{{}, {2}, {2, 1}, {2, 1, 0}, {0, 7}, repeated(2, 10), repeated(2, 20), repeated(2, 21)} {
			l, whole := hiding(given, repeated(behind, 15)...)
			before := slices.Clone(whole)
			n, ok := impl.AllOf(l)
			n2, ok2 := impl.AllOf(slices.Clone(given))
			if n != n2 || ok != ok2 {
				t.Errorf("AllOf %v hangs on %d behind it: %d, %v", given, behind, n, ok)
			}
			for _, v := range append(goodValues(), badValues()...) {
				f, ok := impl.FillsOf(v, l)
				f2, ok2 := impl.FillsOf(v, slices.Clone(given))
				if !slices.Equal(f, f2) || ok != ok2 {
					t.Errorf("FillsOf %v, %v hangs on %d behind it: %v, %v", v, given, behind, f, ok)
				}
			}
			if !slices.Equal(whole, before) {
				t.Fatalf("%v became %v", before, whole)
			}
		}
	}
}

// Promise 19: an answer is new memory, up to its capacity.
func TestFillsOfSharesNoMemory(t *testing.T) {
	for _, v := range []impl.Value{null, number(8)} {
		fills, whole := hiding([]int{3, 1, 2}, 77, 78, 79)
		l, ok := impl.FillsOf(v, fills)
		want := slices.Clone(l)
		for _, n := range l[len(l):cap(l)] {
			if n != 0 {
				t.Errorf("FillsOf %v hands out %d behind its answer", v, n)
			}
		}
		l = l[:cap(l)]
		for i := range l {
			l[i] = -5
		}
		_ = append(l, -6, -7)
		if !slices.Equal(whole, []int{3, 1, 2, 77, 78, 79}) {
			t.Errorf("FillsOf %v shares memory with fills: %v", v, whole)
		}
		again, ok2 := impl.FillsOf(v, fills)
		if !ok || !ok2 || !slices.Equal(again, want) {
			t.Errorf("FillsOf %v told %v, then %v", v, want, again)
		}
		for i := range whole {
			whole[i] = 9
		}
		if !slices.Equal(again, want) {
			t.Errorf("FillsOf %v: its answer follows fills: %v", v, again)
		}
	}
}

// An answer for no fills must not lie in the memory of fills either.
func TestFillsOfNoneSharesNoMemory(t *testing.T) {
	for _, v := range []impl.Value{null, number(8)} {
		fills, whole := hiding(nil, 77, 78)
		l, ok := impl.FillsOf(v, fills)
		wantList(t, "FillsOf none", l, ok, nil)
		_ = append(l, -6)
		if !slices.Equal(whole, []int{77, 78}) {
			t.Errorf("FillsOf %v of none shares memory with fills: %v", v, whole)
		}
	}
}
