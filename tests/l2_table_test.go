package tests

import (
	"fmt"
	"math"
	"slices"
	"testing"

	"loop.example/g00641/impl"
)

// someKeys are both ends of the keys, what stands beside them and one between.
var someKeys = []int{0, 1, 500, 998, 999}

// askedKeys are someKeys, what stands beside each of them, and what no key can be.
var askedKeys = slices.Concat([]int{-1000, -1, 0, 1, 2, 499, 500, 501, 997, 998, 999, 1000, 1001}, extremes)

var askedCols = slices.Concat([]int{-3, -1, 0, 1, 2, 3, 4}, extremes)

func row(key int, cols ...impl.Value) impl.Row {
	return impl.Row{Key: key, Cols: cols}
}

// rowOf makes a row that is unlike that of any other key, and of any other turn.
func rowOf(key int, turn int) impl.Row {
	return row(key, number(key), null, number(-turn))
}

func tableOf(keys ...int) []impl.Row {
	l := []impl.Row{}
	for _, key := range keys {
		l = append(l, rowOf(key, 1))
	}
	return l
}

// manyRows are the keys 10, 12, 14 and so on.
func manyRows(many int) []impl.Row {
	l := []impl.Row{}
	for i := range many {
		l = append(l, rowOf(10+2*i, 1))
	}
	return l
}

// smallTables are the tables of some of someKeys, none and all among them.
func smallTables() [][]impl.Row {
	all := [][]impl.Row{}
	for some := range 1 << len(someKeys) {
		keys := []int{}
		for i, key := range someKeys {
			if some>>i&1 == 1 {
				keys = append(keys, key)
			}
		}
		all = append(all, tableOf(keys...))
	}
	return all
}

func goodTables() [][]impl.Row {
	return append(smallTables(), nil, manyRows(1), manyRows(19), manyRows(20), []impl.Row{
		row(3, number(-1000), null, number(1000)), row(4, null, null, null), row(5, number(0), number(0), number(0)),
	})
}

func badRows() []impl.Row {
	l := []impl.Row{
		{}, row(5), row(5, null), row(5, null, null), row(5, null, null, null, null), row(5, slices.Repeat([]impl.Value{null}, 1000)...),
		rowOf(0, 1001), {Key: 0}, {Key: 999},
	}
	for _, key := range append([]int{-1000, -1, 1000, 1001}, extremes...) {
		l = append(l, row(key, null, number(1), number(2)))
	}
	for _, bad := range badValues() {
		l = append(l, row(7, bad, null, null), row(7, null, bad, null), row(7, null, null, bad))
	}
	return l
}

func badTables() [][]impl.Row {
	all := [][]impl.Row{
		manyRows(21), manyRows(22), manyRows(400),
		tableOf(5, 5), tableOf(0, 0), tableOf(999, 999), tableOf(6, 5), tableOf(999, 0), tableOf(1, 2, 2), tableOf(1, 3, 2), tableOf(2, 1, 3), tableOf(1, 2, 1),
	}
	for _, bad := range badRows() {
		all = append(all, []impl.Row{bad}, []impl.Row{rowOf(2, 1), bad}, []impl.Row{rowOf(2, 1), rowOf(4, 1), bad, rowOf(800, 1)})
		full := manyRows(20)
		full[19] = bad
		all = append(all, full)
	}
	return all
}

func sameRow(a impl.Row, b impl.Row) bool {
	return a.Key == b.Key && slices.Equal(a.Cols, b.Cols)
}

func sameRows(a []impl.Row, b []impl.Row) bool {
	return slices.EqualFunc(a, b, sameRow)
}

func copyRow(r impl.Row) impl.Row {
	return impl.Row{Key: r.Key, Cols: slices.Clone(r.Cols)}
}

func copyRows(l []impl.Row) []impl.Row {
	all := make([]impl.Row, len(l))
	for i, r := range l {
		all[i] = copyRow(r)
	}
	return all
}

func placeOf(l []impl.Row, key int) int {
	return slices.IndexFunc(l, func(r impl.Row) bool { return r.Key == key })
}

// The tests say for themselves what comes of a put, a drop, a set and a range, so that no fault can hide behind another one.
func wantPut(l []impl.Row, r impl.Row) []impl.Row {
	all := wantDrop(l, r.Key)
	at := 0
	for at < len(all) && all[at].Key < r.Key {
		at++
	}
	return slices.Insert(all, at, copyRow(r))
}

func wantDrop(l []impl.Row, key int) []impl.Row {
	return slices.DeleteFunc(copyRows(l), func(r impl.Row) bool { return r.Key == key })
}

func wantSet(l []impl.Row, key int, col int, v impl.Value) []impl.Row {
	all := copyRows(l)
	all[placeOf(all, key)].Cols[col] = v
	return all
}

func wantRange(l []impl.Row, from int, to int) []impl.Row {
	return slices.DeleteFunc(copyRows(l), func(r impl.Row) bool { return r.Key < from || r.Key > to })
}

func wantRows(t *testing.T, what string, got []impl.Row, ok bool, want []impl.Row) {
	t.Helper()
	if !sameRows(got, want) || !ok {
		t.Errorf("%s: got %v, %v; want %v, true", what, got, ok, want)
	}
	if !impl.GoodTable(got) {
		t.Errorf("%s: %v is not good", what, got)
	}
}

func refusedRows(t *testing.T, what string, got []impl.Row, ok bool) {
	t.Helper()
	if len(got) != 0 || ok {
		t.Errorf("%s: got %v, %v; want none, false", what, got, ok)
	}
}

func refusedRow(t *testing.T, what string, got impl.Row, ok bool) {
	t.Helper()
	if got.Key != 0 || len(got.Cols) != 0 || ok {
		t.Errorf("%s: got %v, %v; want the zero row, false", what, got, ok)
	}
}

func wantFound(t *testing.T, l []impl.Row, want impl.Row) {
	t.Helper()
	if got, ok := impl.FindRow(l, want.Key); !ok || !sameRow(got, want) {
		t.Errorf("FindRow %v, %d: got %v, %v; want %v, true", l, want.Key, got, ok, want)
	}
}

// Promise 2: no row but that of the key changed.
func wantOthersAsBefore(t *testing.T, before []impl.Row, after []impl.Row, key int) {
	t.Helper()
	if !sameRows(wantDrop(before, key), wantDrop(after, key)) {
		t.Errorf("beside %d %v became %v", key, before, after)
	}
	for _, r := range before {
		if r.Key != key {
			wantFound(t, after, r)
		}
	}
}

func TestNamesOfChapter2(t *testing.T) {
	if impl.MaxRows != 20 || impl.Wide != 3 {
		t.Error("limits are", impl.MaxRows, impl.Wide)
	}
}

func TestGoodTable(t *testing.T) {
	for _, l := range goodTables() {
		if !impl.GoodTable(l) {
			t.Errorf("%v is not good", l)
		}
	}
	for _, l := range badTables() {
		if impl.GoodTable(l) {
			t.Errorf("%v is good", l)
		}
	}
}

func TestGoodTableByKeysAndValues(t *testing.T) {
	for a := -1; a <= 1000; a++ {
		if got, want := impl.GoodTable([]impl.Row{row(a, null, null, null)}), a >= 0 && a <= 999; got != want {
			t.Errorf("one row of key %d: good is %v", a, got)
		}
		for _, b := range someKeys {
			if got, want := impl.GoodTable([]impl.Row{row(a, null, null, null), rowOf(b, 1)}), a >= 0 && a < b; got != want {
				t.Errorf("rows of keys %d, %d: good is %v", a, b, got)
			}
		}
	}
	for at := range 3 {
		for _, v := range append(goodValues(), badValues()...) {
			r := row(5, number(1), null, number(2))
			r.Cols[at] = v
			if got, want := impl.GoodTable([]impl.Row{r}), impl.GoodValue(v); got != want {
				t.Errorf("%v: good is %v", r, got)
			}
		}
	}
}

func TestFindRow(t *testing.T) {
	for _, l := range goodTables() {
		for _, r := range l {
			wantFound(t, l, r)
		}
		for _, key := range askedKeys {
			if placeOf(l, key) < 0 {
				r, ok := impl.FindRow(l, key)
				refusedRow(t, fmt.Sprint("FindRow ", l, key), r, ok)
			}
		}
	}
}

// Promise 2: a row that is put is found, whether its key was there or not.
func TestPutRowIsFound(t *testing.T) {
	for _, l := range goodTables() {
		for _, key := range []int{0, 1, 2, 10, 11, 48, 49, 499, 500, 501, 998, 999} {
			for _, r := range []impl.Row{rowOf(key, 2), row(key, null, null, null), row(key, number(-1000), number(1000), number(0))} {
				what := fmt.Sprint("PutRow ", l, r)
				got, ok := impl.PutRow(l, r)
				if len(l) == 20 && placeOf(l, key) < 0 {
					refusedRows(t, what, got, ok)
					continue
				}
				wantRows(t, what, got, ok, wantPut(l, r))
				wantFound(t, got, r)
				wantOthersAsBefore(t, l, got, key)
				again, ok := impl.PutRow(got, r)
				wantRows(t, what+" again", again, ok, got)
			}
		}
	}
}

func TestPutRowAtTheLimit(t *testing.T) {
	for many := range 20 {
		l := manyRows(many)
		for key := 9; key <= 50; key++ {
			got, ok := impl.PutRow(l, rowOf(key, 2))
			wantRows(t, fmt.Sprint("PutRow of ", key, " into ", many), got, ok, wantPut(l, rowOf(key, 2)))
		}
	}
	full := manyRows(20)
	for key := 0; key <= 999; key++ {
		what := fmt.Sprint("PutRow of ", key, " into 20")
		got, ok := impl.PutRow(full, rowOf(key, 2))
		if placeOf(full, key) < 0 {
			refusedRows(t, what, got, ok)
			continue
		}
		wantRows(t, what, got, ok, wantPut(full, rowOf(key, 2)))
	}
}

// Whatever the order in which rows are put, they stand by rising keys.
func TestPutRowInAnyOrder(t *testing.T) {
	want := manyRows(20)
	for _, step := range []int{1, 3, 7, 9, 11, 13, 17, 19} {
		l := []impl.Row(nil)
		for i := range 20 {
			r := want[i*step%20]
			got, ok := impl.PutRow(l, r)
			wantRows(t, fmt.Sprint("PutRow ", l, r), got, ok, wantPut(l, r))
			l = got
		}
		if !sameRows(l, want) {
			t.Errorf("by steps of %d: %v", step, l)
		}
		for i := range 20 {
			key := want[i*step%20].Key
			got, ok := impl.DropRow(l, key)
			wantRows(t, fmt.Sprint("DropRow ", l, key), got, ok, wantDrop(l, key))
			l = got
		}
	}
}

// Promise 2: a row that is dropped is not found.
func TestDroppedRowIsNotFound(t *testing.T) {
	for _, l := range goodTables() {
		for _, r := range l {
			what := fmt.Sprint("DropRow ", l, r.Key)
			got, ok := impl.DropRow(l, r.Key)
			wantRows(t, what, got, ok, wantDrop(l, r.Key))
			wantOthersAsBefore(t, l, got, r.Key)
			gone, ok := impl.FindRow(got, r.Key)
			refusedRow(t, what+", then FindRow", gone, ok)
			again, ok := impl.DropRow(got, r.Key)
			refusedRows(t, what+" again", again, ok)
			back, ok := impl.PutRow(got, r)
			wantRows(t, what+", then PutRow", back, ok, l)
		}
		for _, key := range askedKeys {
			if placeOf(l, key) < 0 {
				got, ok := impl.DropRow(l, key)
				refusedRows(t, fmt.Sprint("DropRow ", l, key), got, ok)
			}
		}
	}
}

// Promise 2: a column that is set is so alone.
func TestSetColumn(t *testing.T) {
	for _, l := range goodTables() {
		for _, r := range l {
			for col := range 3 {
				for _, v := range goodValues() {
					got, ok := impl.SetColumn(l, r.Key, col, v)
					wantRows(t, fmt.Sprint("SetColumn ", l, r.Key, col, v), got, ok, wantSet(l, r.Key, col, v))
					wantOthersAsBefore(t, l, got, r.Key)
				}
			}
		}
	}
}

func TestSetColumnRefuses(t *testing.T) {
	l := tableOf(0, 500, 999)
	for _, key := range askedKeys {
		for _, col := range askedCols {
			for _, v := range append(goodValues(), badValues()...) {
				got, ok := impl.SetColumn(l, key, col, v)
				if placeOf(l, key) < 0 || col < 0 || col > 2 || !impl.GoodValue(v) {
					refusedRows(t, fmt.Sprint("SetColumn ", l, key, col, v), got, ok)
				} else {
					wantRows(t, fmt.Sprint("SetColumn ", l, key, col, v), got, ok, wantSet(l, key, col, v))
				}
			}
		}
	}
	for _, key := range askedKeys {
		got, ok := impl.SetColumn(nil, key, 0, number(1))
		refusedRows(t, fmt.Sprint("SetColumn of none, ", key), got, ok)
	}
}

// No from and no to is wrong: with from above to there are none, and true.
func TestRangeOf(t *testing.T) {
	ends := slices.Concat(askedKeys, []int{9, 10, 11, 12, 47, 48, 49})
	for _, l := range goodTables() {
		for _, from := range ends {
			for _, to := range ends {
				got, ok := impl.RangeOf(l, from, to)
				wantRows(t, fmt.Sprint("RangeOf ", l, from, to), got, ok, wantRange(l, from, to))
			}
		}
	}
}

func TestRangeOfPlainly(t *testing.T) {
	l := tableOf(2, 4, 6, 8)
	for _, c := range []struct {
		from, to int
		keys     []int
	}{
		{4, 6, []int{4, 6}}, {3, 7, []int{4, 6}}, {5, 5, nil}, {4, 4, []int{4}}, {6, 4, nil}, {7, 3, nil},
		{2, 8, []int{2, 4, 6, 8}}, {0, 999, []int{2, 4, 6, 8}}, {math.MinInt, math.MaxInt, []int{2, 4, 6, 8}},
		{math.MaxInt, math.MinInt, nil}, {9, 999, nil}, {9, math.MaxInt, nil}, {math.MinInt, 1, nil}, {-5, 2, []int{2}}, {8, 5000, []int{8}},
	} {
		got, ok := impl.RangeOf(l, c.from, c.to)
		wantRows(t, fmt.Sprint("RangeOf ", c.from, c.to), got, ok, tableOf(c.keys...))
	}
}

// A range that is cut at any key is, put together, the whole one.
func TestRangeOfCutInTwo(t *testing.T) {
	for _, l := range goodTables() {
		for cut := -2; cut <= 1001; cut++ {
			low, ok := impl.RangeOf(l, math.MinInt, cut)
			high, ok2 := impl.RangeOf(l, cut+1, math.MaxInt)
			if !ok || !ok2 || !sameRows(slices.Concat(low, high), l) {
				t.Errorf("%v cut behind %d: %v, %v and %v, %v", l, cut, low, ok, high, ok2)
			}
		}
	}
}

func TestKeysOf(t *testing.T) {
	for _, l := range goodTables() {
		want := []int{}
		for _, r := range l {
			want = append(want, r.Key)
		}
		// A map is gone through in another order each time: asked often, it must not show.
		for range 5 {
			keys, ok := impl.KeysOf(l)
			wantList(t, fmt.Sprint("KeysOf ", l), keys, ok, want)
		}
	}
}

// Promise 19: a table that is not good is refused by all, whatever else is asked.
func TestBadTablesAreRefused(t *testing.T) {
	for _, l := range badTables() {
		keys := append([]int{2, 4, 5, 6, 7, 10, 800}, askedKeys...)
		for _, key := range keys {
			r, ok := impl.FindRow(l, key)
			refusedRow(t, fmt.Sprint("FindRow ", l, key), r, ok)
			got, ok := impl.PutRow(l, rowOf(key, 2))
			refusedRows(t, fmt.Sprint("PutRow ", l, key), got, ok)
			got, ok = impl.DropRow(l, key)
			refusedRows(t, fmt.Sprint("DropRow ", l, key), got, ok)
			got, ok = impl.SetColumn(l, key, 0, number(1))
			refusedRows(t, fmt.Sprint("SetColumn ", l, key), got, ok)
			got, ok = impl.RangeOf(l, key, 999)
			refusedRows(t, fmt.Sprint("RangeOf ", l, key, " up"), got, ok)
			got, ok = impl.RangeOf(l, 0, key)
			refusedRows(t, fmt.Sprint("RangeOf ", l, key, " down"), got, ok)
		}
		told, ok := impl.KeysOf(l)
		refusedList(t, fmt.Sprint("KeysOf ", l), told, ok)
	}
}

// Nor is a table mended by what is asked: the bad row may not be dropped, put anew or left out.
func TestBadTablesAreNotMended(t *testing.T) {
	l := []impl.Row{rowOf(1, 1), row(2, null, null), rowOf(3, 1)}
	got, ok := impl.PutRow(l, rowOf(2, 1))
	refusedRows(t, "PutRow over a bad row", got, ok)
	got, ok = impl.DropRow(l, 2)
	refusedRows(t, "DropRow of a bad row", got, ok)
	got, ok = impl.RangeOf(l, 3, 9)
	refusedRows(t, "RangeOf beside a bad row", got, ok)
	got, ok = impl.DropRow(manyRows(21), 10)
	refusedRows(t, "DropRow of one of 21", got, ok)
	got, ok = impl.PutRow(manyRows(21), rowOf(10, 2))
	refusedRows(t, "PutRow of one of 21", got, ok)
	got, ok = impl.SetColumn([]impl.Row{row(2, null, number(1001), null)}, 2, 1, null)
	refusedRows(t, "SetColumn over a bad value", got, ok)
}

func TestPutRowRefusesBadRows(t *testing.T) {
	for _, l := range goodTables() {
		for _, bad := range badRows() {
			got, ok := impl.PutRow(l, bad)
			refusedRows(t, fmt.Sprint("PutRow ", l, bad), got, ok)
		}
	}
}
