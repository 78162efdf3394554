package tests

import (
	"math/big"
	"slices"
	"testing"

	"loop.example/g00641/impl"
)

func numbers(l ...int) []impl.Value {
	all := []impl.Value{}
	for _, n := range l {
		all = append(all, number(n))
	}
	return all
}

func repeatedValue(v impl.Value, many int) []impl.Value {
	return slices.Repeat([]impl.Value{v}, many)
}

func sum(rows int, knownOnes int, total int, low impl.Value, high impl.Value) impl.Sum {
	return impl.Sum{Rows: rows, Known: knownOnes, Total: total, Low: low, High: high}
}

// sumOfNulls is the sum of so many of which none is known: it has no ends.
func sumOfNulls(rows int) impl.Sum {
	return sum(rows, 0, 0, null, null)
}

// The tests say for themselves what a sum, the unlike ones, a count and the groups are.
func knownOf(l []impl.Value) []int {
	all := []int{}
	for _, v := range l {
		if !v.Null {
			all = append(all, v.N)
		}
	}
	return all
}

func wantedSum(l []impl.Value) impl.Sum {
	there := knownOf(l)
	if len(there) == 0 {
		return sumOfNulls(len(l))
	}
	total := 0
	for _, n := range there {
		total += n
	}
	return sum(len(l), len(there), total, number(slices.Min(there)), number(slices.Max(there)))
}

func wantedDistinct(l []impl.Value) []impl.Value {
	all := []impl.Value{}
	if slices.Contains(l, null) {
		all = append(all, null)
	}
	for n := -1000; n <= 1000; n++ {
		if slices.Contains(l, number(n)) {
			all = append(all, number(n))
		}
	}
	return all
}

func wantedCount(l []impl.Value, kind int, v impl.Value) int {
	many := 0
	for _, n := range knownOf(l) {
		if !v.Null && isSo(kind, n, v.N) {
			many++
		}
	}
	return many
}

func columnIn(l []impl.Row, col int) []impl.Value {
	all := []impl.Value{}
	for _, r := range l {
		all = append(all, r.Cols[col])
	}
	return all
}

func membersOf(l []impl.Row, group int, v impl.Value) []impl.Row {
	return slices.DeleteFunc(copyRows(l), func(r impl.Row) bool { return r.Cols[group] != v })
}

func wantedGroups(l []impl.Row, group int, col int) []impl.Row {
	all := []impl.Row{}
	for i, v := range wantedDistinct(columnIn(l, group)) {
		members := membersOf(l, group, v)
		total := number(wantedSum(columnIn(members, col)).Total)
		if total.N < -1000 || total.N > 1000 {
			total = null
		}
		all = append(all, row(i, v, number(len(members)), total))
	}
	return all
}

// fits says by numbers without bound whether a sum is good, so that no wrap-round can hide.
func fits(s impl.Sum) bool {
	if s.Rows < 0 || s.Rows > 10000 || s.Known < 0 || s.Known > s.Rows || s.Total < -1000000 || s.Total > 1000000 {
		return false
	}
	if s.Known == 0 {
		return s.Low == null && s.High == null && s.Total == 0
	}
	for _, end := range []impl.Value{s.Low, s.High} {
		if end.Null || end.N < -1000 || end.N > 1000 {
			return false
		}
	}
	many, total := big.NewInt(int64(s.Known)), big.NewInt(int64(s.Total))
	least := new(big.Int).Mul(many, big.NewInt(int64(s.Low.N)))
	most := new(big.Int).Mul(many, big.NewInt(int64(s.High.N)))
	return s.Low.N <= s.High.N && total.Cmp(least) >= 0 && total.Cmp(most) <= 0
}

func wantSum(t *testing.T, what string, got impl.Sum, ok bool, want impl.Sum) {
	t.Helper()
	if got != want || !ok {
		t.Errorf("%s: got %v, %v; want %v, true", what, got, ok, want)
	}
	if !impl.GoodSum(got) {
		t.Errorf("%s: %v is not good", what, got)
	}
}

func refusedSum(t *testing.T, what string, got impl.Sum, ok bool) {
	t.Helper()
	if got != (impl.Sum{}) || ok {
		t.Errorf("%s: got %v, %v; want the zero sum, false", what, got, ok)
	}
}

func wantValue(t *testing.T, what string, got impl.Value, ok bool, want impl.Value) {
	t.Helper()
	if got != want || !ok {
		t.Errorf("%s: got %v, %v; want %v, true", what, got, ok, want)
	}
}

func refusedValue(t *testing.T, what string, got impl.Value, ok bool) {
	t.Helper()
	if got != (impl.Value{}) || ok {
		t.Errorf("%s: got %v, %v; want the zero value, false", what, got, ok)
	}
}

func wantValues(t *testing.T, what string, got []impl.Value, ok bool, want []impl.Value) {
	t.Helper()
	if !slices.Equal(got, want) || !ok {
		t.Errorf("%s: got %v, %v; want %v, true", what, got, ok, want)
	}
}

func refusedValues(t *testing.T, what string, got []impl.Value, ok bool) {
	t.Helper()
	if len(got) != 0 || ok {
		t.Errorf("%s: got %v, %v; want none, false", what, got, ok)
	}
}

// spreading tells numbers by a fixed rule that spreads them.
func spreading(seed uint64) func(below int) int {
	return func(below int) int {
		seed = seed*6364136223846793005 + 1442695040888963407
		return int(seed>>33) % below
	}
}

// madeValues are so many lists of up to 40 values: of few numbers, of all numbers, of many and of few Nulls.
func madeValues(many int) [][]impl.Value {
	next := spreading(5)
	all := [][]impl.Value{}
	for i := range many {
		l := []impl.Value{}
		for range next(41) {
			n := next(2001) - 1000
			if i%2 == 0 {
				n = next(5) - 2
			}
			if next(i%5+1) > 0 {
				l = append(l, null)
			} else {
				l = append(l, number(n))
			}
		}
		all = append(all, l)
	}
	return all
}

// smallValues are all lists of up to four of Null and three numbers.
func smallValues() [][]impl.Value {
	all := [][]impl.Value{{}}
	for from := 0; len(all[len(all)-1]) < 4; {
		to := len(all)
		for _, l := range all[from:to] {
			for _, v := range []impl.Value{null, number(-2), number(0), number(3)} {
				all = append(all, append(slices.Clone(l), v))
			}
		}
		from = to
	}
	return all
}

// edgeValues stand at the limits that the document names.
func edgeValues() [][]impl.Value {
	mixed := []impl.Value{}
	for i := range 40 {
		mixed = append(mixed, []impl.Value{null, number(1000), number(-1000), number(i), number(-i)}[i%5])
	}
	return [][]impl.Value{
		nil, {}, {null}, {number(0)}, {number(-1000)}, {number(1000)}, {null, number(0)}, {number(0), null}, goodValues(),
		repeatedValue(null, 40), repeatedValue(number(1000), 40), repeatedValue(number(-1000), 40), repeatedValue(number(0), 40), mixed, mixed[:39],
		append(repeatedValue(null, 39), number(-7)), append(numbers(7), repeatedValue(null, 39)...), slices.Concat(numbers(3, 3, 1, 3, -1, 1), repeatedValue(null, 2)),
	}
}

func goodLists() [][]impl.Value {
	return slices.Concat(edgeValues(), smallValues(), madeValues(120))
}

func badLists() [][]impl.Value {
	all := [][]impl.Value{repeatedValue(null, 41), repeatedValue(number(1), 41), repeatedValue(number(0), 42), make([]impl.Value, 5000)}
	for _, bad := range badValues() {
		all = append(all, []impl.Value{bad}, []impl.Value{bad, null, number(1)}, []impl.Value{number(3), bad, null}, []impl.Value{null, number(2), bad})
		full := repeatedValue(number(1), 40)
		full[39] = bad
		all = append(all, full, append(repeatedValue(null, 40), bad))
	}
	return all
}

// edgeSums are good sums at the limits that the document names, and some between.
func edgeSums() []impl.Sum {
	all := []impl.Sum{
		sumOfNulls(0), sumOfNulls(1), sumOfNulls(9999), sumOfNulls(10000),
		sum(10000, 10000, 1000000, number(100), number(100)), sum(10000, 10000, -1000000, number(-100), number(-100)),
		sum(10000, 10000, 0, number(-1000), number(1000)), sum(10000, 1, 1000, number(1000), number(1000)),
		sum(1000, 1000, 1000000, number(1000), number(1000)), sum(1000, 1000, -1000000, number(-1000), number(-1000)),
		sum(999, 999, 999000, number(1000), number(1000)), sum(999, 999, -999000, number(-1000), number(-1000)),
		sum(5000, 4999, -499999, number(-1000), number(7)), sum(5000, 5000, 500000, number(-3), number(1000)), sum(5001, 5000, 500001, number(5), number(900)),
		sum(9999, 0, 0, null, null), sum(9999, 9998, 1, number(0), number(1)), sum(2, 1, -1000, number(-1000), number(1000)), sum(1, 1, 1000, number(-1000), number(1000)),
	}
	for _, l := range append(edgeValues(), madeValues(20)...) {
		all = append(all, wantedSum(l))
	}
	return all
}

func badSums() []impl.Sum {
	good := sum(3, 2, 4, number(1), number(3))
	all := []impl.Sum{
		{}, {Rows: 1}, {Low: null}, {High: null}, sum(1, 1, 0, null, null), sum(0, 1, 0, null, null), sum(0, 1, 1, number(1), number(1)), sum(1, 0, 1, null, null),
		sum(1, 0, 0, number(0), number(0)), sum(2, 1, 0, null, number(0)), sum(2, 1, 0, number(0), null), sum(2, 2, 2, number(2), number(0)), sum(2, 2, 3, number(2), number(3)), sum(2, 2, 7, number(2), number(3)),
	}
	for _, n := range append([]int{-10000, -1, 10001, 1000001, -1000001}, extremes...) {
		all = append(all, sum(n, n, 0, null, null), sum(0, n, 0, null, null), sum(n, n, n, number(n), number(n)), sum(n, 0, n, null, null))
		rows, knownOnes, total := good, good, good
		rows.Rows, knownOnes.Known, total.Total = n, n, n
		all = append(all, rows, knownOnes, total)
	}
	for _, bad := range badValues() {
		low, high, both := good, good, good
		low.Low, high.High, both.Low, both.High = bad, bad, bad, bad
		all = append(all, low, high, both, sum(2, 0, 0, bad, bad), sum(2, 0, 0, null, bad), sum(2, 0, 0, bad, null))
	}
	return all
}

// groupTables are tables whose groups have totals within the bounds, just at them and beyond, and columns of Null alone.
func groupTables() [][]impl.Row {
	all := goodTables()
	for _, l := range [][]int{{1000}, {-1000}, {999, 1}, {999, 2}, {-999, -1}, {-999, -2}, {1000, 1000, -1000}, {500, 500}, {-500, -501}, {1000, 1, -1}, {0, 0}} {
		rows := []impl.Row{}
		for i, n := range l {
			rows = append(rows, row(i, number(7), number(n), null), row(400+i, null, number(n), number(-n)))
		}
		slices.SortFunc(rows, func(a, b impl.Row) int { return a.Key - b.Key })
		all = append(all, rows)
	}
	next := spreading(9)
	for i := range 80 {
		rows := []impl.Row{}
		for key := range next(21) {
			cols := []impl.Value{}
			for range 3 {
				v := number([]int{next(5) - 2, 400 * (next(5) - 2), next(2001) - 1000}[(i+len(cols))%3])
				if next(4) == 0 {
					v = null
				}
				cols = append(cols, v)
			}
			rows = append(rows, row(key*49+i%40, cols...))
		}
		all = append(all, rows)
	}
	return all
}
