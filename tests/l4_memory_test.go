package tests

import (
	"slices"
	"testing"

	"loop.example/g00641/impl"
)

// An answer of chapter 4, whichever function told it.
type answer4 struct {
	s      impl.Sum
	values []impl.Value
	rows   []impl.Row
	n      int
	ok     bool
}

type call4 struct {
	name string
	ask  func(l []impl.Value, rows []impl.Row) answer4
}

func groupsAsked(rows []impl.Row, group int, col int) answer4 {
	got, ok := impl.ByGroup(rows, group, col)
	return answer4{rows: got, ok: ok}
}

// callsOf4 are all functions of chapter 4 that are given a list.
func callsOf4() []call4 {
	return []call4{
		{"SumOf", func(l []impl.Value, _ []impl.Row) answer4 {
			s, ok := impl.SumOf(l)
			return answer4{s: s, ok: ok}
		}},
		{"DistinctOf", func(l []impl.Value, _ []impl.Row) answer4 {
			values, ok := impl.DistinctOf(l)
			return answer4{values: values, ok: ok}
		}},
		{"CountWhere", func(l []impl.Value, _ []impl.Row) answer4 {
			n, ok := impl.CountWhere(l, impl.CmMore, number(0))
			return answer4{n: n, ok: ok}
		}},
		{"ByGroup 0, 1", func(_ []impl.Value, rows []impl.Row) answer4 { return groupsAsked(rows, 0, 1) }},
		{"ByGroup 1, 2", func(_ []impl.Value, rows []impl.Row) answer4 { return groupsAsked(rows, 1, 2) }},
		{"ByGroup 2, 2", func(_ []impl.Value, rows []impl.Row) answer4 { return groupsAsked(rows, 2, 2) }},
		{"ByGroup 3, 0", func(_ []impl.Value, rows []impl.Row) answer4 { return groupsAsked(rows, 3, 0) }},
	}
}

func sameAnswer4(a answer4, b answer4) bool {
	return a.s == b.s && slices.Equal(a.values, b.values) && sameRows(a.rows, b.rows) && a.n == b.n && a.ok == b.ok
}

func copyAnswer4(a answer4) answer4 {
	return answer4{s: a.s, values: slices.Clone(a.values), rows: copyRows(a.rows), n: a.n, ok: a.ok}
}

// hidingValues lays l into memory that goes on behind its length, with behind there.
func hidingValues(l []impl.Value, behind ...impl.Value) []impl.Value {
	return slices.Concat(l, behind)[:len(l)]
}

func wholeValues(l []impl.Value) []impl.Value {
	return slices.Clone(l[:cap(l)])
}

func spoilValues(l []impl.Value) {
	l = l[:cap(l)]
	for i := range l {
		l[i] = number(-404)
	}
}

// memoryLists are good ones, in order and in none, and some that are not good.
func memoryLists() [][]impl.Value {
	return append(edgeValues(), repeatedValue(number(2), 41), []impl.Value{number(1), number(1001)}, numbers(1, 2, 3), numbers(3, 2, 1), []impl.Value{null, number(1), number(2)})
}

// eachOf4 asks check of each call of chapter 4 at a list and a table.
func eachOf4(check func(c call4, l []impl.Value, rows []impl.Row)) {
	tables := append(memoryTables(), groupTables()...)
	lists := memoryLists()
	for _, c := range callsOf4() {
		for i, rows := range tables {
			check(c, lists[i%len(lists)], rows)
		}
	}
}

// Promise 19: nothing is written into an argument, and what lies behind a length is not read.
func TestListsOfChapter4StayAsTheyWere(t *testing.T) {
	behinds := [][]impl.Value{{}, {null}, numbers(0, 5), numbers(5000), {{Null: true, N: 7}}}
	eachOf4(func(c call4, given []impl.Value, rows []impl.Row) {
		want := c.ask(slices.Clone(given), copyRows(rows))
		for _, behind := range behinds {
			l, table := hidingValues(given, behind...), hidingRows(rows, row(999, null, number(5000)), rowOf(5, 1))
			listBefore, tableBefore := wholeValues(l), wholeOf(table)
			if got := c.ask(l, table); !sameAnswer4(got, want) {
				t.Errorf("%s of %v, %v hangs on %v behind it: %v, not %v", c.name, given, rows, behind, got, want)
			}
			if !slices.Equal(wholeValues(l), listBefore) || !sameRows(wholeOf(table), tableBefore) {
				t.Fatalf("%s made %v, %v of %v, %v", c.name, wholeValues(l), wholeOf(table), listBefore, tableBefore)
			}
		}
	})
}

// Promise 19: an answer is new memory; written over, it changes no argument, and it follows none.
func TestAnswersOfChapter4ShareNoneWithArguments(t *testing.T) {
	eachOf4(func(c call4, given []impl.Value, rows []impl.Row) {
		l, table := hidingValues(given, number(71), null), hidingRows(rows, tableOf(5, 7)...)
		listBefore, tableBefore := wholeValues(l), wholeOf(table)
		got := c.ask(l, table)
		want := copyAnswer4(got)
		second := c.ask(l, table)
		spoilValues(got.values)
		spoil(got.rows)
		if !slices.Equal(wholeValues(l), listBefore) || !sameRows(wholeOf(table), tableBefore) {
			t.Fatalf("%s shares memory with %v or %v", c.name, given, rows)
		}
		spoilValues(l)
		spoil(table)
		if !sameAnswer4(second, want) {
			t.Errorf("%s: its second answer became %v, not %v", c.name, second, want)
		}
	})
}

// Promise 19: no two rows of one answer share memory, and nothing lies behind an answer's lists.
func TestListsOfAnAnswerOfChapter4ShareNone(t *testing.T) {
	eachOf4(func(c call4, given []impl.Value, rows []impl.Row) {
		got := c.ask(hidingValues(given, number(71)), hidingRows(rows, tableOf(5, 7)...))
		for _, v := range got.values[len(got.values):cap(got.values)] {
			refusedValue(t, c.name+" behind its values", v, false)
		}
		for _, r := range got.rows[len(got.rows):cap(got.rows)] {
			refusedRow(t, c.name+" behind its rows", r, false)
		}
		for i, r := range got.rows {
			for _, v := range r.Cols[len(r.Cols):cap(r.Cols)] {
				refusedValue(t, c.name+" behind a row", v, false)
			}
			before := copyRows(got.rows)
			spoilValues(r.Cols)
			before[i] = copyRow(r)
			if !sameRows(got.rows, before) {
				t.Fatalf("%s: rows share memory: %v", c.name, got.rows)
			}
		}
	})
}

// Rows of an argument may share memory among themselves, an answer's do not.
func TestGroupsOfRowsThatShareMemory(t *testing.T) {
	shared := numbers(4, 4, 4, 9, 9)
	l := []impl.Row{row(2, shared[0:3]...), row(4, shared[1:4]...), row(6, shared[2:5]...)}
	got, ok := impl.ByGroup(l, 2, 0)
	wantRows(t, "ByGroup of rows that share memory", got, ok, []impl.Row{row(0, number(4), number(1), number(4)), row(1, number(9), number(2), number(8))})
	spoil(got)
	if !slices.Equal(shared, numbers(4, 4, 4, 9, 9)) {
		t.Errorf("what the rows share became %v", shared)
	}
}

// A list cut to 40 is summed though more lie behind it, and they are not counted.
func TestValuesBehindTheLengthDoNotCount(t *testing.T) {
	whole := append(repeatedValue(number(1), 40), number(5000), number(7))
	s, ok := impl.SumOf(whole[:40])
	wantSum(t, "SumOf 40 of 42", s, ok, sum(40, 40, 40, number(1), number(1)))
	d, ok := impl.DistinctOf(whole[:40])
	wantValues(t, "DistinctOf 40 of 42", d, ok, numbers(1))
	n, ok := impl.CountWhere(whole[:40], impl.CmEqual, number(1))
	wantInt(t, "CountWhere 40 of 42", n, ok, 40)
	s, ok = impl.SumOf(whole[:0])
	wantSum(t, "SumOf 0 of 42", s, ok, sumOfNulls(0))
	d, ok = impl.DistinctOf(whole[:0])
	wantValues(t, "DistinctOf 0 of 42", d, ok, nil)
}
