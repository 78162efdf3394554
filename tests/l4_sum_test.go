package tests

import (
	"fmt"
	"slices"
	"testing"

	"loop.example/g00641/impl"
)

func TestLimitOfChapter4(t *testing.T) {
	if impl.MaxSum != 1000000 {
		t.Error("the limit is", impl.MaxSum)
	}
}

func TestSumOf(t *testing.T) {
	for _, l := range goodLists() {
		got, ok := impl.SumOf(l)
		wantSum(t, fmt.Sprint("SumOf ", l), got, ok, wantedSum(l))
	}
}

func TestSumOfPlainly(t *testing.T) {
	for _, c := range []struct {
		l    []impl.Value
		want impl.Sum
	}{
		{nil, sum(0, 0, 0, null, null)},
		{[]impl.Value{null}, sum(1, 0, 0, null, null)},
		{[]impl.Value{null, null, null}, sum(3, 0, 0, null, null)},
		{numbers(0), sum(1, 1, 0, number(0), number(0))},
		{[]impl.Value{null, number(1), number(3)}, sum(3, 2, 4, number(1), number(3))},
		{[]impl.Value{number(5), null, number(-8), null}, sum(4, 2, -3, number(-8), number(5))},
		{[]impl.Value{number(-5), null}, sum(2, 1, -5, number(-5), number(-5))},
		{[]impl.Value{null, number(5)}, sum(2, 1, 5, number(5), number(5))},
		{numbers(3, 2, 1), sum(3, 3, 6, number(1), number(3))},
		{numbers(1, 2, 3), sum(3, 3, 6, number(1), number(3))},
		{repeatedValue(number(1000), 40), sum(40, 40, 40000, number(1000), number(1000))},
		{repeatedValue(number(-1000), 40), sum(40, 40, -40000, number(-1000), number(-1000))},
		{repeatedValue(null, 40), sum(40, 0, 0, null, null)},
	} {
		got, ok := impl.SumOf(c.l)
		wantSum(t, fmt.Sprint("SumOf ", c.l), got, ok, c.want)
	}
}

// Promise 19: lists that are too long or have a value that is not good are refused by all that take them.
func TestBadListsAreRefused(t *testing.T) {
	for _, l := range badLists() {
		s, ok := impl.SumOf(l)
		refusedSum(t, fmt.Sprint("SumOf ", l), s, ok)
		d, ok := impl.DistinctOf(l)
		refusedValues(t, fmt.Sprint("DistinctOf ", l), d, ok)
		for _, kind := range append(slices.Clone(kinds), wrongSmall...) {
			for _, v := range []impl.Value{null, number(0), number(1001)} {
				n, ok := impl.CountWhere(l, kind, v)
				refusedInt(t, fmt.Sprint("CountWhere ", l, kind, v), n, ok)
			}
		}
	}
}

func TestGoodSumPlainly(t *testing.T) {
	for _, s := range edgeSums() {
		if !impl.GoodSum(s) {
			t.Errorf("%v is not good", s)
		}
	}
	for _, s := range badSums() {
		if impl.GoodSum(s) {
			t.Errorf("%v is good", s)
		}
	}
}

// Each field in turn at its edges and far beyond, with all others: none wraps round into a good sum.
func TestGoodSumByAllFields(t *testing.T) {
	counts := append([]int{-1, 0, 1, 2, 3, 1000, 9999, 10000, 10001}, extremes...)
	totals := append([]int{-1000001, -1000000, -999999, -2, -1, 0, 1, 2, 3, 2000, 999999, 1000000, 1000001}, extremes...)
	ends := []impl.Value{null, {Null: true, N: 1}, {Null: true, N: -1000}}
	for _, n := range append([]int{-1001, -1000, -100, -1, 0, 1, 100, 1000, 1001}, extremes...) {
		ends = append(ends, number(n))
	}
	many := 0
	for _, rows := range counts {
		for _, knownOnes := range counts {
			for _, total := range totals {
				for _, low := range ends {
					for _, high := range ends {
						s := sum(rows, knownOnes, total, low, high)
						if got, want := impl.GoodSum(s), fits(s); got != want {
							t.Fatalf("%v: good is %v", s, got)
						} else if got {
							many++
						}
					}
				}
			}
		}
	}
	if many < 100 {
		t.Errorf("only %d of them are good", many)
	}
}

func TestGoodSumByRowsAndKnown(t *testing.T) {
	for _, rows := range []int{-1, 0, 1, 2, 39, 40, 41, 9999, 10000, 10001} {
		for _, knownOnes := range []int{-1, 0, 1, rows - 1, rows, rows + 1} {
			s := sum(rows, knownOnes, knownOnes, number(1), number(1))
			if knownOnes == 0 {
				s = sumOfNulls(rows)
			}
			want := rows >= 0 && rows <= 10000 && knownOnes >= 0 && knownOnes <= rows
			if got := impl.GoodSum(s); got != want {
				t.Errorf("%v: good is %v", s, got)
			}
		}
	}
}

// The Total goes just as far as Known times the ends, and no farther than MaxSum.
func TestGoodSumByTotal(t *testing.T) {
	for _, knownOnes := range []int{1, 2, 3, 7, 999, 1000, 1001, 9999, 10000} {
		for _, low := range []int{-1000, -999, -101, -100, -1, 0, 1, 100, 1000} {
			for _, high := range []int{-1000, -100, -99, -1, 0, 1, 100, 101, 999, 1000} {
				least, most := knownOnes*low, knownOnes*high
				for _, total := range []int{least - 1, least, least + 1, most - 1, most, most + 1, -1000001, -1000000, -999999, 999999, 1000000, 1000001} {
					s := sum(10000, knownOnes, total, number(low), number(high))
					want := low <= high && total >= least && total <= most && total >= -1000000 && total <= 1000000
					if got := impl.GoodSum(s); got != want {
						t.Errorf("%v: good is %v", s, got)
					}
				}
			}
		}
	}
}

// Low and High are Null, with Total 0, just where Known is 0: with one Null alone, or with a Total, no sum is good.
func TestGoodSumByNullEnds(t *testing.T) {
	for _, low := range []impl.Value{null, number(0), number(-1), number(1)} {
		for _, high := range []impl.Value{null, number(0), number(-1), number(1)} {
			for _, total := range []int{-2, -1, 0, 1, 2} {
				for knownOnes := range 3 {
					s := sum(2, knownOnes, total, low, high)
					if got, want := impl.GoodSum(s), fits(s); got != want {
						t.Errorf("%v: good is %v", s, got)
					}
					if (low.Null || high.Null) && (knownOnes > 0 || low != high || total != 0) && impl.GoodSum(s) {
						t.Errorf("%v is good", s)
					}
				}
			}
		}
	}
}

func TestAddSumsPlainly(t *testing.T) {
	some := sum(3, 2, 4, number(1), number(3))
	below := sum(2, 2, -9, number(-8), number(-1))
	for _, c := range []struct{ a, b, want impl.Sum }{
		{sumOfNulls(0), sumOfNulls(0), sumOfNulls(0)},
		{sumOfNulls(2), sumOfNulls(3), sumOfNulls(5)},
		{some, sumOfNulls(0), some},
		{sumOfNulls(0), some, some},
		{sumOfNulls(4), some, sum(7, 2, 4, number(1), number(3))},
		{below, sumOfNulls(4), sum(6, 2, -9, number(-8), number(-1))},
		{some, some, sum(6, 4, 8, number(1), number(3))},
		{some, below, sum(5, 4, -5, number(-8), number(3))},
		{below, some, sum(5, 4, -5, number(-8), number(3))},
		{sum(1, 1, 0, number(0), number(0)), some, sum(4, 3, 4, number(0), number(3))},
		{sum(1, 1, 0, number(0), number(0)), below, sum(3, 3, -9, number(-8), number(0))},
	} {
		got, ok := impl.AddSums(c.a, c.b)
		wantSum(t, fmt.Sprint("AddSums ", c.a, c.b), got, ok, c.want)
	}
}

func TestAddSumsAtTheLimits(t *testing.T) {
	flat := func(rows int, n int) impl.Sum { return sum(rows, rows, rows*n, number(n), number(n)) }
	for _, c := range []struct {
		a, b impl.Sum
		ok   bool
	}{
		{sumOfNulls(10000), sumOfNulls(0), true}, {sumOfNulls(9999), sumOfNulls(1), true}, {sumOfNulls(10000), sumOfNulls(1), false},
		{sumOfNulls(5000), sumOfNulls(5001), false}, {sumOfNulls(10000), sumOfNulls(10000), false}, {sumOfNulls(9999), flat(1, 3), true}, {sumOfNulls(10000), flat(1, 3), false},
		{flat(9999, 1), flat(1, 1), true}, {flat(10000, 1), flat(1, 1), false}, {flat(10000, 0), sumOfNulls(0), true}, {flat(10000, 0), sumOfNulls(1), false},
		{flat(999, 1000), flat(1, 1000), true}, {flat(1000, 1000), flat(1, 0), true}, {flat(1000, 1000), flat(1, 1), false}, {flat(999, 1000), flat(2, 501), false},
		{flat(999, -1000), flat(1, -1000), true}, {flat(1000, -1000), flat(1, 0), true}, {flat(1000, -1000), flat(1, -1), false}, {flat(999, -1000), flat(2, -501), false},
		{flat(1000, 1000), flat(1000, 1000), false}, {flat(1000, -1000), flat(1000, -1000), false}, {flat(1000, 1000), flat(1000, -1000), true}, {flat(5000, 100), flat(5000, 100), true},
	} {
		got, ok := impl.AddSums(c.a, c.b)
		other, ok2 := impl.AddSums(c.b, c.a)
		if !c.ok {
			refusedSum(t, fmt.Sprint("AddSums ", c.a, c.b), got, ok)
			refusedSum(t, fmt.Sprint("AddSums ", c.b, c.a), other, ok2)
			continue
		}
		if !ok || !ok2 || got != other || got.Rows != c.a.Rows+c.b.Rows || got.Known != c.a.Known+c.b.Known || got.Total != c.a.Total+c.b.Total {
			t.Errorf("AddSums %v, %v: %v, %v and %v, %v", c.a, c.b, got, ok, other, ok2)
		}
	}
}

// Promise 19: a sum that is not good is refused, whatever stands beside it: no two of them make a good one.
func TestBadSumsAreRefused(t *testing.T) {
	for _, bad := range badSums() {
		for _, other := range slices.Concat(edgeSums(), badSums()) {
			got, ok := impl.AddSums(bad, other)
			refusedSum(t, fmt.Sprint("AddSums ", bad, other), got, ok)
			got, ok = impl.AddSums(other, bad)
			refusedSum(t, fmt.Sprint("AddSums ", other, bad), got, ok)
		}
		v, ok := impl.MeanOf(bad)
		refusedValue(t, fmt.Sprint("MeanOf ", bad), v, ok)
	}
}

func TestMeanOfPlainly(t *testing.T) {
	wide := func(knownOnes int, total int) impl.Sum {
		return sum(10000, knownOnes, total, number(-1000), number(1000))
	}
	for _, c := range []struct {
		s    impl.Sum
		want impl.Value
	}{
		{sumOfNulls(0), null}, {sumOfNulls(1), null}, {sumOfNulls(10000), null}, {wide(1, 0), number(0)}, {wide(10000, 0), number(0)},
		{sum(3, 2, 4, number(1), number(3)), number(2)}, {sum(3, 2, 5, number(1), number(3)), number(2)}, {sum(3, 3, 5, number(1), number(3)), number(1)},
		{wide(2, -4), number(-2)}, {wide(2, -5), number(-3)}, {wide(2, -3), number(-2)}, {wide(2, -1), number(-1)}, {wide(2, 1), number(0)},
		{wide(3, -1), number(-1)}, {wide(3, -2), number(-1)}, {wide(3, -3), number(-1)}, {wide(3, -4), number(-2)}, {wide(3, 2), number(0)}, {wide(3, 3), number(1)},
		{wide(1, -1000), number(-1000)}, {wide(1, 1000), number(1000)}, {wide(1000, 1000000), number(1000)}, {wide(1000, -1000000), number(-1000)},
		{wide(1000, -999999), number(-1000)}, {wide(1000, 999999), number(999)}, {wide(10000, -1), number(-1)}, {wide(10000, 1), number(0)}, {wide(10000, -1000000), number(-100)},
		{wide(1001, -1000000), number(-1000)}, {wide(1001, 1000000), number(999)},
	} {
		got, ok := impl.MeanOf(c.s)
		wantValue(t, fmt.Sprint("MeanOf ", c.s), got, ok, c.want)
	}
}

func TestDistinctOf(t *testing.T) {
	for _, l := range goodLists() {
		got, ok := impl.DistinctOf(l)
		wantValues(t, fmt.Sprint("DistinctOf ", l), got, ok, wantedDistinct(l))
	}
}

func TestDistinctOfPlainly(t *testing.T) {
	for _, c := range []struct{ l, want []impl.Value }{
		{nil, nil}, {[]impl.Value{null}, []impl.Value{null}}, {[]impl.Value{null, null}, []impl.Value{null}}, {numbers(0, 0), numbers(0)},
		{[]impl.Value{number(0), null, number(0), null}, []impl.Value{null, number(0)}},
		{[]impl.Value{number(3), null, number(1), number(3)}, []impl.Value{null, number(1), number(3)}},
		{[]impl.Value{number(-1000), null, number(1000), number(-1)}, []impl.Value{null, number(-1000), number(-1), number(1000)}},
		{numbers(5, 4, 3, 4, 5), numbers(3, 4, 5)}, {numbers(2, -2, 1, -1), numbers(-2, -1, 1, 2)},
		{repeatedValue(null, 40), []impl.Value{null}}, {repeatedValue(number(8), 40), numbers(8)},
	} {
		got, ok := impl.DistinctOf(c.l)
		wantValues(t, fmt.Sprint("DistinctOf ", c.l), got, ok, c.want)
	}
	forty := []impl.Value{}
	for i := range 40 {
		forty = append(forty, number(-i))
	}
	got, ok := impl.DistinctOf(forty)
	slices.Reverse(forty)
	wantValues(t, "DistinctOf 40 unlike ones", got, ok, forty)
}

func TestCountWhere(t *testing.T) {
	for _, l := range goodLists() {
		for _, kind := range kinds {
			for _, v := range append(goodValues(), number(-2), number(3)) {
				got, ok := impl.CountWhere(l, kind, v)
				wantInt(t, fmt.Sprint("CountWhere ", l, kind, v), got, ok, wantedCount(l, kind, v))
			}
		}
	}
}

// It is the list's value that is as great, less or more; with Null nothing is true.
func TestCountWherePlainly(t *testing.T) {
	l := []impl.Value{number(3), null, number(1), number(1), number(-4), null}
	for _, c := range []struct {
		kind int
		v    impl.Value
		want int
	}{
		{impl.CmEqual, number(1), 2}, {impl.CmEqual, number(0), 0}, {impl.CmEqual, number(-4), 1}, {impl.CmEqual, null, 0},
		{impl.CmLess, number(1), 1}, {impl.CmLess, number(3), 3}, {impl.CmLess, number(4), 4}, {impl.CmLess, number(-4), 0}, {impl.CmLess, null, 0},
		{impl.CmMore, number(1), 1}, {impl.CmMore, number(-4), 3}, {impl.CmMore, number(-1000), 4}, {impl.CmMore, number(3), 0}, {impl.CmMore, null, 0},
	} {
		got, ok := impl.CountWhere(l, c.kind, c.v)
		wantInt(t, fmt.Sprint("CountWhere ", c.kind, c.v), got, ok, c.want)
	}
}

// A wrong kind and a value that is not good are refused, though there be nothing to hold it against.
func TestCountWhereRefuses(t *testing.T) {
	for _, l := range edgeValues() {
		for _, kind := range wrongSmall {
			for _, v := range slices.Concat(goodValues(), badValues()) {
				got, ok := impl.CountWhere(l, kind, v)
				refusedInt(t, fmt.Sprint("CountWhere ", l, kind, v), got, ok)
			}
		}
		for _, kind := range kinds {
			for _, v := range badValues() {
				got, ok := impl.CountWhere(l, kind, v)
				refusedInt(t, fmt.Sprint("CountWhere ", l, kind, v), got, ok)
			}
		}
	}
}

func TestByGroup(t *testing.T) {
	for _, l := range groupTables() {
		for group := range 3 {
			for col := range 3 {
				got, ok := impl.ByGroup(l, group, col)
				wantRows(t, fmt.Sprint("ByGroup ", l, group, col), got, ok, wantedGroups(l, group, col))
			}
		}
	}
}

func TestByGroupPlainly(t *testing.T) {
	l := []impl.Row{
		row(1, number(5), number(600), null), row(2, null, number(7), null), row(3, number(5), number(400), number(2)), row(4, number(-3), number(600), null),
		row(5, number(-3), number(401), null), row(6, null, null, null), row(7, number(9), number(-1000), number(1)), row(8, number(9), number(-1), null), row(900, number(0), null, number(-4)),
	}
	for _, c := range []struct {
		group, col int
		want       []impl.Row
	}{
		{0, 1, []impl.Row{
			row(0, null, number(2), number(7)), row(1, number(-3), number(2), null), row(2, number(0), number(1), number(0)), row(3, number(5), number(2), number(1000)), row(4, number(9), number(2), null),
		}},
		{0, 0, []impl.Row{
			row(0, null, number(2), number(0)), row(1, number(-3), number(2), number(-6)), row(2, number(0), number(1), number(0)), row(3, number(5), number(2), number(10)), row(4, number(9), number(2), number(18)),
		}},
		{2, 1, []impl.Row{
			row(0, null, number(6), null), row(1, number(-4), number(1), number(0)), row(2, number(1), number(1), number(-1000)), row(3, number(2), number(1), number(400)),
		}},
		{2, 2, []impl.Row{
			row(0, null, number(6), number(0)), row(1, number(-4), number(1), number(-4)), row(2, number(1), number(1), number(1)), row(3, number(2), number(1), number(2)),
		}},
	} {
		got, ok := impl.ByGroup(l, c.group, c.col)
		wantRows(t, fmt.Sprint("ByGroup ", c.group, c.col), got, ok, c.want)
	}
}

func TestByGroupAtTheLimits(t *testing.T) {
	alike, unlike := []impl.Row{}, []impl.Row{}
	for i := range 20 {
		alike = append(alike, row(980+i, null, number(1000), number(50)))
		unlike = append(unlike, row(i, number(-i), number(1000), number(i-10)))
	}
	got, ok := impl.ByGroup(alike, 0, 1)
	wantRows(t, "ByGroup of 20 alike, 20000", got, ok, []impl.Row{row(0, null, number(20), null)})
	got, ok = impl.ByGroup(alike, 1, 2)
	wantRows(t, "ByGroup of 20 alike, 1000", got, ok, []impl.Row{row(0, number(1000), number(20), number(1000))})
	got, ok = impl.ByGroup(unlike, 0, 2)
	if !ok || len(got) != 20 || !sameRow(got[0], row(0, number(-19), number(1), number(9))) || !sameRow(got[19], row(19, number(0), number(1), number(-10))) {
		t.Errorf("ByGroup of 20 unlike: %v, %v", got, ok)
	}
	for _, none := range [][]impl.Row{nil, {}} {
		got, ok = impl.ByGroup(none, 0, 2)
		wantRows(t, "ByGroup of none", got, ok, nil)
	}
}

func TestByGroupRefuses(t *testing.T) {
	for _, l := range [][]impl.Row{nil, tableOf(0, 500, 999), manyRows(20)} {
		for _, group := range askedCols {
			for _, col := range askedCols {
				what := fmt.Sprint("ByGroup ", l, group, col)
				got, ok := impl.ByGroup(l, group, col)
				if group < 0 || group > 2 || col < 0 || col > 2 {
					refusedRows(t, what, got, ok)
				} else {
					wantRows(t, what, got, ok, wantedGroups(l, group, col))
				}
			}
		}
	}
	for _, l := range badTables() {
		for _, group := range []int{-1, 0, 1, 2, 3} {
			for _, col := range []int{-1, 0, 1, 2, 3} {
				got, ok := impl.ByGroup(l, group, col)
				refusedRows(t, fmt.Sprint("ByGroup ", l, group, col), got, ok)
			}
		}
	}
}
