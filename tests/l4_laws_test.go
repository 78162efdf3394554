package tests

import (
	"slices"
	"testing"

	"loop.example/g00641/impl"
)

func summedUp(t *testing.T, l []impl.Value) impl.Sum {
	t.Helper()
	s, ok := impl.SumOf(l)
	if !ok {
		t.Fatalf("SumOf refuses %v", l)
	}
	return s
}

func added(t *testing.T, a impl.Sum, b impl.Sum) impl.Sum {
	t.Helper()
	s, ok := impl.AddSums(a, b)
	if !ok {
		t.Fatalf("AddSums refuses %v, %v", a, b)
	}
	return s
}

// Promise 4: sums of parts make the sum of the whole, wherever it is cut, and whichever part comes first.
func TestSumsOfPartsMakeTheSumOfTheWhole(t *testing.T) {
	for _, l := range goodLists() {
		whole := summedUp(t, l)
		for cut := range len(l) + 1 {
			first, last := summedUp(t, l[:cut]), summedUp(t, l[cut:])
			got, ok := impl.AddSums(first, last)
			wantSum(t, "parts", got, ok, whole)
			got, ok = impl.AddSums(last, first)
			wantSum(t, "parts, the last first", got, ok, whole)
		}
	}
}

// Promise 4: one part of each pair has none known, or nothing at all, and so has the other one, or not.
func TestSumsOfPartsOfWhichNoneIsKnown(t *testing.T) {
	for _, l := range [][]impl.Value{nil, {null}, repeatedValue(null, 20), numbers(0), numbers(-5, 3), {null, number(1000)}, repeatedValue(number(-1000), 20)} {
		for many := range 21 {
			nulls := repeatedValue(null, many)
			whole := summedUp(t, slices.Concat(nulls, l))
			if whole != wantedSum(slices.Concat(l, nulls)) {
				t.Errorf("%d Nulls and %v: %v", many, l, whole)
			}
			if got := added(t, summedUp(t, nulls), summedUp(t, l)); got != whole {
				t.Errorf("%d Nulls and %v: parts make %v, not %v", many, l, got, whole)
			}
			if got := added(t, summedUp(t, l), summedUp(t, nulls)); got != whole {
				t.Errorf("%v and %d Nulls: parts make %v, not %v", l, many, got, whole)
			}
		}
	}
}

// Promise 4: cut in three, it does not matter which two are added first; cut to single values, nor in which order.
func TestSumsOfManyParts(t *testing.T) {
	for _, l := range append(edgeValues(), madeValues(40)...) {
		whole := summedUp(t, l)
		for one := 0; one <= len(l); one += 3 {
			for two := one; two <= len(l); two += 2 {
				a, b, c := summedUp(t, l[:one]), summedUp(t, l[one:two]), summedUp(t, l[two:])
				if got := added(t, added(t, a, b), c); got != whole {
					t.Errorf("%v cut at %d, %d: %v", l, one, two, got)
				}
				if got := added(t, a, added(t, b, c)); got != whole {
					t.Errorf("%v cut at %d, %d, the last two first: %v", l, one, two, got)
				}
			}
		}
		up, down := summedUp(t, nil), summedUp(t, nil)
		for i := range l {
			up = added(t, up, summedUp(t, l[i:i+1]))
			down = added(t, summedUp(t, l[len(l)-1-i:len(l)-i]), down)
		}
		if up != whole || down != whole {
			t.Errorf("%v one by one: %v, %v", l, up, down)
		}
	}
}

// Parts go on where a list may not: 250 times 40 values are 10000 rows, and one more is refused.
func TestSumsOfPartsUpToTheLimits(t *testing.T) {
	for _, n := range []int{-100, -1, 0, 25, 100} {
		part, all := summedUp(t, repeatedValue(number(n), 40)), summedUp(t, nil)
		for range 250 {
			all = added(t, all, part)
		}
		wantSum(t, "250 parts", all, true, sum(10000, 10000, 10000*n, number(n), number(n)))
		got, ok := impl.AddSums(all, summedUp(t, []impl.Value{null}))
		refusedSum(t, "250 parts and a row", got, ok)
	}
	part, all := summedUp(t, repeatedValue(number(-1000), 40)), summedUp(t, nil)
	for range 25 {
		all = added(t, all, part)
	}
	wantSum(t, "25 parts", all, true, sum(1000, 1000, -1000000, number(-1000), number(-1000)))
	got, ok := impl.AddSums(all, part)
	refusedSum(t, "26 parts", got, ok)
	got, ok = impl.AddSums(all, summedUp(t, []impl.Value{null, number(1000)}))
	wantSum(t, "25 parts and one above 0", got, ok, sum(1002, 1001, -999000, number(-1000), number(1000)))
}

// Promise 4: of any good sums the order of the two does not matter, refused or not, and a sum of none changes nothing.
func TestAddSumsAsksNotWhichComesFirst(t *testing.T) {
	for _, a := range edgeSums() {
		got, ok := impl.AddSums(a, summedUp(t, nil))
		wantSum(t, "a sum and none", got, ok, a)
		got, ok = impl.AddSums(summedUp(t, nil), a)
		wantSum(t, "none and a sum", got, ok, a)
		for _, b := range edgeSums() {
			one, ok := impl.AddSums(a, b)
			two, ok2 := impl.AddSums(b, a)
			if one != two || ok != ok2 {
				t.Errorf("AddSums %v, %v: %v, %v, the other first: %v, %v", a, b, one, ok, two, ok2)
			}
			rows, total := a.Rows+b.Rows, a.Total+b.Total
			if want := rows <= 10000 && total >= -1000000 && total <= 1000000; ok != want {
				t.Errorf("AddSums %v, %v: %v", a, b, ok)
			}
			if ok && !impl.GoodSum(one) {
				t.Errorf("AddSums %v, %v: %v is not good", a, b, one)
			}
		}
	}
}

// A mean lies between the ends, and its product with Known at most at the Total, that of the next one above it.
func TestMeanLiesBetweenTheEnds(t *testing.T) {
	for _, s := range edgeSums() {
		got, ok := impl.MeanOf(s)
		if !ok || !impl.GoodValue(got) || got.Null != (s.Known == 0) {
			t.Errorf("MeanOf %v: %v, %v", s, got, ok)
		}
		if got.Null {
			continue
		}
		if got.N < s.Low.N || got.N > s.High.N || got.N*s.Known > s.Total || (got.N+1)*s.Known <= s.Total {
			t.Errorf("MeanOf %v: %v", s, got)
		}
	}
	for knownOnes := 1; knownOnes <= 12; knownOnes++ {
		for total := -40; total <= 40; total++ {
			got, ok := impl.MeanOf(sum(12, knownOnes, total, number(-1000), number(1000)))
			if !ok || got.Null || got.N*knownOnes > total || (got.N+1)*knownOnes <= total {
				t.Errorf("MeanOf %d by %d: %v, %v", total, knownOnes, got, ok)
			}
		}
	}
}

// Promise 4: the groups have all rows between them, each unlike value one, and their sums make that of the column.
func TestGroupsHaveAllRowsBetweenThem(t *testing.T) {
	for _, l := range groupTables() {
		for group := range 3 {
			for col := range 3 {
				groups, ok := impl.ByGroup(l, group, col)
				values, ok2 := impl.DistinctOf(columnIn(l, group))
				if !ok || !ok2 || !slices.Equal(columnIn(groups, 0), values) {
					t.Fatalf("%v by %d: %v, %v; %v, %v", l, group, groups, ok, values, ok2)
				}
				rows, all := 0, summedUp(t, nil)
				for i, g := range groups {
					part := summedUp(t, columnIn(membersOf(l, group, g.Cols[0]), col))
					if g.Key != i || g.Cols[1] != number(part.Rows) || !g.Cols[2].Null && g.Cols[2].N != part.Total {
						t.Errorf("%v by %d, %d: %v has %v", l, group, col, g, part)
					}
					if beyond := part.Total < -1000 || part.Total > 1000; g.Cols[2].Null != beyond {
						t.Errorf("%v by %d, %d: %v of %v", l, group, col, g, part)
					}
					rows += g.Cols[1].N
					all = added(t, all, part)
				}
				if rows != len(l) || all != summedUp(t, columnIn(l, col)) {
					t.Errorf("%v by %d, %d: %d rows, %v", l, group, col, rows, all)
				}
			}
		}
	}
}

// Each unlike value once, Null first, then rising; asked of its own answer it tells the same.
func TestDistinctOnesRise(t *testing.T) {
	for _, l := range goodLists() {
		got, ok := impl.DistinctOf(l)
		if !ok {
			t.Fatalf("DistinctOf refuses %v", l)
		}
		for i, v := range got {
			if !slices.Contains(l, v) || i > 0 && (v.Null || !got[i-1].Null && got[i-1].N >= v.N) {
				t.Errorf("DistinctOf %v: %v", l, got)
			}
		}
		for _, v := range l {
			if !slices.Contains(got, v) {
				t.Errorf("DistinctOf %v: %v has no %v", l, got, v)
			}
		}
		again, ok := impl.DistinctOf(got)
		wantValues(t, "DistinctOf its own answer", again, ok, got)
		turned := slices.Clone(l)
		slices.Reverse(turned)
		other, ok := impl.DistinctOf(turned)
		wantValues(t, "DistinctOf the other way round", other, ok, got)
	}
}

// A known value is as great, less or more than another one, just one of the three; of Null nothing is true.
func TestThreeKindsCountAllThatAreKnown(t *testing.T) {
	for _, l := range goodLists() {
		for _, v := range goodValues() {
			many := 0
			for _, kind := range kinds {
				n, ok := impl.CountWhere(l, kind, v)
				if !ok {
					t.Fatalf("CountWhere refuses %v, %d, %v", l, kind, v)
				}
				many += n
			}
			want := summedUp(t, l).Known
			if v.Null {
				want = 0
			}
			if many != want {
				t.Errorf("%v by %v: %d, not %d", l, v, many, want)
			}
		}
	}
}

// Promise 4: counts of parts make the count of the whole.
func TestCountsOfPartsMakeTheCountOfTheWhole(t *testing.T) {
	for _, l := range edgeValues() {
		for cut := range len(l) + 1 {
			for _, kind := range kinds {
				for _, v := range []impl.Value{null, number(-1), number(0), number(1000)} {
					first, ok := impl.CountWhere(l[:cut], kind, v)
					last, ok2 := impl.CountWhere(l[cut:], kind, v)
					whole, ok3 := impl.CountWhere(l, kind, v)
					if !ok || !ok2 || !ok3 || first+last != whole {
						t.Errorf("%v cut at %d by %d, %v: %d and %d, not %d", l, cut, kind, v, first, last, whole)
					}
				}
			}
		}
	}
}
