package tests

import (
	"fmt"
	"slices"
	"testing"

	"loop.example/g00641/impl"
)

// An answer of chapter 2, whichever function told it.
type answer2 struct {
	rows []impl.Row
	keys []int
	ok   bool
}

type call2 struct {
	name string
	ask  func(l []impl.Row, r impl.Row) answer2
}

func ofRows(l []impl.Row, ok bool) answer2 { return answer2{rows: l, ok: ok} }

// callsOf are all functions of chapter 2 that are given a list, asked at a key.
func callsOf(key int) []call2 {
	return []call2{
		{"GoodTable", func(l []impl.Row, _ impl.Row) answer2 { return answer2{ok: impl.GoodTable(l)} }},
		{"FindRow", func(l []impl.Row, _ impl.Row) answer2 {
			r, ok := impl.FindRow(l, key)
			return answer2{rows: []impl.Row{r}, ok: ok}
		}},
		{"PutRow", func(l []impl.Row, r impl.Row) answer2 { return ofRows(impl.PutRow(l, r)) }},
		{"DropRow", func(l []impl.Row, _ impl.Row) answer2 { return ofRows(impl.DropRow(l, key)) }},
		{"RangeOf", func(l []impl.Row, _ impl.Row) answer2 { return ofRows(impl.RangeOf(l, key, 999)) }},
		{"RangeOf none", func(l []impl.Row, _ impl.Row) answer2 { return ofRows(impl.RangeOf(l, 999, 0)) }},
		{"SetColumn", func(l []impl.Row, _ impl.Row) answer2 { return ofRows(impl.SetColumn(l, key, 1, number(33))) }},
		{"KeysOf", func(l []impl.Row, _ impl.Row) answer2 {
			keys, ok := impl.KeysOf(l)
			return answer2{keys: keys, ok: ok}
		}},
	}
}

func sameAnswer(a answer2, b answer2) bool {
	return sameRows(a.rows, b.rows) && slices.Equal(a.keys, b.keys) && a.ok == b.ok
}

func copyAnswer(a answer2) answer2 {
	return answer2{rows: copyRows(a.rows), keys: slices.Clone(a.keys), ok: a.ok}
}

// hidingCols lays the columns of r into memory that goes on behind them.
func hidingCols(r impl.Row, behind ...impl.Value) impl.Row {
	whole := slices.Concat(r.Cols, behind)
	return impl.Row{Key: r.Key, Cols: whole[:len(r.Cols)]}
}

// hidingRows does so for each row of l, and lays rows behind the list too.
func hidingRows(l []impl.Row, behind ...impl.Row) []impl.Row {
	whole := []impl.Row{}
	for _, r := range slices.Concat(l, behind) {
		whole = append(whole, hidingCols(r, number(71), null, number(5000)))
	}
	return whole[:len(l)]
}

// wholeOf copies all that lies in the memory of l and its rows, behind their lengths too.
func wholeOf(l []impl.Row) []impl.Row {
	all := copyRows(l[:cap(l)])
	for i, r := range l[:cap(l)] {
		all[i].Cols = slices.Clone(r.Cols[:cap(r.Cols)])
	}
	return all
}

// spoil writes over all memory of l and its rows, behind their lengths too.
func spoil(l []impl.Row) {
	l = l[:cap(l)]
	for i := range l {
		cols := l[i].Cols[:cap(l[i].Cols)]
		for k := range cols {
			cols[k] = number(-404)
		}
		l[i] = impl.Row{Key: -404}
	}
}

func memoryTables() [][]impl.Row {
	return [][]impl.Row{{}, tableOf(4), tableOf(2, 4, 6), tableOf(4, 999), manyRows(19), manyRows(20), manyRows(21), tableOf(4, 4), {row(4, null, null)}}
}

// Promise 19: nothing is written into an argument, and what lies behind a length is not read.
func TestListsOfChapter2StayAsTheyWere(t *testing.T) {
	behinds := [][]impl.Row{{}, {{}}, tableOf(5, 7), tableOf(12), {rowOf(5000, 1), row(3, null)}}
	for _, given := range memoryTables() {
		for _, behind := range behinds {
			for _, key := range []int{4, 10, 11, 48, 2, 7, 999, -1} {
				for _, c := range callsOf(key) {
					l := hidingRows(given, behind...)
					r := hidingCols(rowOf(key, 2), number(72), number(5000))
					before, rowBefore := wholeOf(l), slices.Clone(r.Cols[:cap(r.Cols)])
					got := c.ask(l, r)
					if want := c.ask(copyRows(given), rowOf(key, 2)); !sameAnswer(got, want) {
						t.Errorf("%s of %v at %d hangs on %v behind it: %v, not %v", c.name, given, key, behind, got, want)
					}
					if !sameRows(wholeOf(l), before) {
						t.Fatalf("%s at %d made %v of %v", c.name, key, wholeOf(l), before)
					}
					if !slices.Equal(r.Cols[:cap(r.Cols)], rowBefore) || r.Key != key {
						t.Fatalf("%s at %d made %v of %v", c.name, key, r, rowBefore)
					}
				}
			}
		}
	}
}

// A row too short by one that has a good value behind it is too short all the same, and one too long by one too long.
func TestColumnsBehindTheLengthDoNotCount(t *testing.T) {
	for _, many := range []int{0, 1, 2, 4} {
		short := hidingCols(row(4, slices.Repeat([]impl.Value{number(1)}, many)...), number(1), number(1), number(1))
		if impl.GoodTable([]impl.Row{short}) {
			t.Errorf("a row of %d is good", many)
		}
		got, ok := impl.PutRow(nil, short)
		refusedRows(t, fmt.Sprint("PutRow of ", many, " columns"), got, ok)
	}
}

// Promise 19: an answer is new memory; written over, it changes no argument, and it follows none.
func TestAnswersOfChapter2ShareNoneWithArguments(t *testing.T) {
	for _, given := range memoryTables() {
		for _, key := range []int{4, 10, 2, 11, 999} {
			for _, c := range callsOf(key) {
				l := hidingRows(given, tableOf(5, 7)...)
				r := hidingCols(rowOf(key, 2), number(72))
				before, rowBefore := wholeOf(l), slices.Clone(r.Cols[:cap(r.Cols)])
				got := c.ask(l, r)
				want := copyAnswer(got)
				second := c.ask(l, r)
				spoil(got.rows)
				for i := range got.keys {
					got.keys[i] = -404
				}
				_ = append(got.rows, rowOf(1, 9))
				_ = append(got.keys, -404)
				if !sameRows(wholeOf(l), before) || !slices.Equal(r.Cols[:cap(r.Cols)], rowBefore) {
					t.Fatalf("%s at %d shares memory with %v or %v", c.name, key, given, r)
				}
				spoil(l)
				spoil([]impl.Row{r})
				if !sameAnswer(second, want) {
					t.Errorf("%s at %d: its second answer became %v, not %v", c.name, key, second, want)
				}
			}
		}
	}
}

// Promise 19: no two lists of one answer share memory, even where those of the argument do, and nothing lies behind them.
func TestListsOfOneAnswerShareNone(t *testing.T) {
	shared := []impl.Value{number(1), number(1), number(1), number(1), number(1)}
	l := []impl.Row{row(2, shared[0:3]...), row(4, shared[1:4]...), row(6, shared[2:5]...)}
	for _, key := range []int{2, 4, 6, 3} {
		for _, c := range callsOf(key) {
			got := c.ask(l, row(key, shared[1:4]...))
			for i := range got.rows {
				before := copyRows(got.rows)
				cols := got.rows[i].Cols[:cap(got.rows[i].Cols)]
				for k := range cols {
					if k >= len(got.rows[i].Cols) && cols[k] != (impl.Value{}) {
						t.Errorf("%s at %d hands out %v behind row %d", c.name, key, cols[k], i)
					}
					cols[k] = number(-404)
				}
				before[i] = copyRow(got.rows[i])
				if !sameRows(got.rows, before) {
					t.Errorf("%s at %d: rows share memory: %v", c.name, key, got.rows)
				}
			}
		}
	}
	if want := slices.Repeat([]impl.Value{number(1)}, 5); !slices.Equal(shared, want) {
		t.Errorf("what the rows share became %v", shared)
	}
}

// A set of a column that rows of the argument share by their memory changes one row alone.
func TestSetColumnOfRowsThatShareMemory(t *testing.T) {
	shared := []impl.Value{number(1), number(2), number(3)}
	l := []impl.Row{row(2, shared...), row(4, shared...)}
	got, ok := impl.SetColumn(l, 4, 0, null)
	wantRows(t, "SetColumn", got, ok, []impl.Row{row(2, number(1), number(2), number(3)), row(4, null, number(2), number(3))})
}

// What lies behind an answer's length is nothing of the argument's.
func TestNothingIsHandedOutBehindAnswers(t *testing.T) {
	for _, given := range memoryTables() {
		for _, key := range []int{4, 10, 11, 999} {
			for _, c := range callsOf(key) {
				got := c.ask(hidingRows(given, tableOf(5, 7)...), rowOf(key, 2))
				for _, r := range got.rows[len(got.rows):cap(got.rows)] {
					refusedRow(t, c.name+" behind its answer", r, false)
				}
				for _, n := range got.keys[len(got.keys):cap(got.keys)] {
					refusedInt(t, c.name+" behind its answer", n, false)
				}
			}
		}
	}
}
