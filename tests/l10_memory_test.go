package tests

import (
	"fmt"
	"math"
	"slices"
	"strings"
	"testing"

	"loop.example/g00641/impl"
)

// An answer of chapter 10, whichever function told it.
type answer10 struct {
	rows []impl.Row
	log  []impl.Record
	text string
	many int
	ok   bool
}

// What the functions of chapter 10 are asked of.
type asked10 struct {
	rows []impl.Row
	r    impl.Record
	log  []impl.Record
	text string
	n    int
}

type call10 struct {
	name string
	ask  func(a asked10) answer10
}

func text10(text string, ok bool) answer10 { return answer10{text: text, ok: ok} }

// callsOf10 are all functions of chapter 10.
func callsOf10() []call10 {
	return []call10{
		{"GoodRecord", func(a asked10) answer10 { return answer10{ok: impl.GoodRecord(a.r)} }},
		{"RecordText", func(a asked10) answer10 { return text10(impl.RecordText(a.r)) }},
		{"LogText", func(a asked10) answer10 { return text10(impl.LogText(a.log)) }},
		{"ReadLog", func(a asked10) answer10 {
			log, many, ok := impl.ReadLog(a.text)
			return answer10{log: log, many: many, ok: ok}
		}},
		{"DoRecord", func(a asked10) answer10 {
			rows, ok := impl.DoRecord(a.rows, a.r)
			return answer10{rows: rows, ok: ok}
		}},
		{"ReplayLog", func(a asked10) answer10 {
			rows, many, ok := impl.ReplayLog(a.rows, a.log, a.n)
			return answer10{rows: rows, many: many, ok: ok}
		}},
		{"CutLog", func(a asked10) answer10 {
			log, ok := impl.CutLog(a.text, a.n)
			return answer10{log: log, ok: ok}
		}},
	}
}

func sameAnswer10(a answer10, b answer10) bool {
	return sameRows(a.rows, b.rows) && sameLog(a.log, b.log) && a.text == b.text && a.many == b.many && a.ok == b.ok
}

func copyAnswer10(a answer10) answer10 {
	return answer10{copyRows(a.rows), copyLog(a.log), strings.Clone(a.text), a.many, a.ok}
}

func sameAsked10(a asked10, b asked10) bool {
	return sameRows(a.rows, b.rows) && sameRecord(a.r, b.r) && sameLog(a.log, b.log) && a.text == b.text && a.n == b.n
}

func copyAsked10(a asked10) asked10 {
	return asked10{copyRows(a.rows), copyRecord(a.r), copyLog(a.log), strings.Clone(a.text), a.n}
}

func hidingRecord(r impl.Record, behind ...impl.Value) impl.Record {
	return impl.Record{No: r.No, Drop: r.Drop, Row: hidingCols(r.Row, behind...)}
}

// hidingAsked10 lays all lists, and the text, into memory that goes on behind them: with values, rows, and records of the next Nos.
func hidingAsked10(a asked10, behind ...impl.Value) asked10 {
	laid := asked10{r: hidingRecord(a.r, behind...), n: a.n}
	laid.rows = hidingRows(a.rows, rowOf(999, 3), row(5000, behind...))
	for i := range len(a.log) + 2 {
		r := drop(i+1, 5)
		if i < len(a.log) {
			r = a.log[i]
		}
		laid.log = append(laid.log, hidingRecord(r, behind...))
	}
	laid.log = laid.log[:len(a.log)]
	laid.text = (a.text + lineBy(fmt.Sprint(1+strings.Count(a.text, "\n"), " d 5")))[:len(a.text)]
	return laid
}

// wholeAsked10 copies all that lies in the memory of a, behind its lengths too.
func wholeAsked10(a asked10) asked10 {
	all := asked10{rows: wholeOf(a.rows), r: a.r, log: slices.Clone(a.log[:cap(a.log)]), text: a.text, n: a.n}
	all.r.Row.Cols = slices.Clone(a.r.Row.Cols[:cap(a.r.Row.Cols)])
	for i, r := range all.log {
		all.log[i].Row.Cols = slices.Clone(r.Row.Cols[:cap(r.Row.Cols)])
	}
	return all
}

// spoilLog writes over all memory of l and its rows, behind their lengths too.
func spoilLog(l []impl.Record) {
	l = l[:cap(l)]
	for i := range l {
		spoil([]impl.Row{l[i].Row})
		l[i] = impl.Record{No: -404, Drop: !l[i].Drop, Row: row(-404)}
	}
}

func spoilAsked10(a asked10) {
	spoil(a.rows)
	spoil([]impl.Row{a.r.Row})
	spoilLog(a.log)
}

// memoryLogs are good ones, and some that are not.
func memoryLogs() [][]impl.Record {
	all := append(edgeLogs(), madeLogs(25)...)
	for i, l := range badLogs() {
		if i%17 == 0 || len(l) == 41 {
			all = append(all, l)
		}
	}
	return all
}

func memoryTexts() []string {
	all := []string{"", "x", "\n", "1 d 5 806", "1 d 5 806\n", strings.Repeat("x", 600), strings.Repeat("x", 601), "1 d 5 806\n" + strings.Repeat("x", 600), strings.Repeat("1 d 5 806\n", 100)}
	for i, l := range shortLogs() {
		if i%3 == 0 {
			all = append(all, wantedText(l))
		}
	}
	for i, line := range faultyLines(2) {
		if i%9 == 0 {
			all = append(all, wantedText(logOf("p5"))+line)
		}
	}
	return append(all, wantedText(logOfBytes(601)))
}

// eachOf10 asks check of each call of chapter 10, at good arguments and at others.
func eachOf10(check func(c call10, a asked10)) {
	tables := append(memoryTables(), tableOf(0, 5, 7, 999))
	records := append(edgeRecords()[:30], badRecords()...)
	texts := memoryTexts()
	logs := memoryLogs()
	for i := range 300 {
		a := asked10{rows: tables[i%len(tables)], r: records[i*7%len(records)], log: logs[i%len(logs)], text: texts[i%len(texts)]}
		for _, n := range []int{0, 1, 2, 10, 37, len(a.text), len(a.text) + 1, 200, 201, -1, math.MinInt, math.MaxInt} {
			a.n = n
			for _, c := range callsOf10() {
				check(c, a)
			}
		}
	}
}

// All that is asked of memory is asked of answers that are told true, and of refusals, of each call.
func TestMemoryOfChapter10IsAskedOfAnswers(t *testing.T) {
	good, bad := map[string]int{}, map[string]int{}
	eachOf10(func(c call10, a asked10) {
		if got := c.ask(a); got.ok {
			good[c.name]++
		} else {
			bad[c.name]++
		}
	})
	for _, c := range callsOf10() {
		if good[c.name] < 300 || bad[c.name] < 90 {
			t.Errorf("%s: %d answers, %d refusals", c.name, good[c.name], bad[c.name])
		}
	}
}

// Promise 19: nothing is written into an argument, and what lies behind a length is not read.
func TestArgumentsOfChapter10StayAsTheyWere(t *testing.T) {
	behinds := [][]impl.Value{{number(1)}, {null, number(2), number(3)}, {number(5000), {Null: true, N: 7}, null, null}}
	eachOf10(func(c call10, a asked10) {
		want := c.ask(copyAsked10(a))
		for _, behind := range behinds {
			laid := hidingAsked10(a, behind...)
			before := wholeAsked10(laid)
			if got := c.ask(laid); !sameAnswer10(got, want) {
				t.Errorf("%s of %v hangs on %v behind it: %v, not %v", c.name, a, behind, got, want)
			}
			if !sameAsked10(wholeAsked10(laid), before) || !sameAsked10(laid, a) {
				t.Fatalf("%s made %v of %v", c.name, wholeAsked10(laid), before)
			}
		}
	})
}

// Promise 19: an answer is new memory; written over, it changes no argument, and it follows none.
func TestAnswersOfChapter10ShareNoneWithArguments(t *testing.T) {
	eachOf10(func(c call10, a asked10) {
		laid := hidingAsked10(a, number(1), null)
		before := wholeAsked10(laid)
		got := c.ask(laid)
		want := copyAnswer10(got)
		second := c.ask(laid)
		spoil(got.rows)
		spoilLog(got.log)
		if !sameAsked10(wholeAsked10(laid), before) {
			t.Fatalf("%s shares memory with %v", c.name, a)
		}
		spoilAsked10(laid)
		if !sameAnswer10(second, want) {
			t.Errorf("%s of %v: its second answer became %v, not %v", c.name, a, second, want)
		}
		if third := c.ask(a); !sameAnswer10(third, want) {
			t.Errorf("%s of %v: its third answer is %v, not %v", c.name, a, third, want)
		}
	})
}

// colsOf are the lists of values of all rows and records of an answer, as they lie in memory.
func colsOf(a answer10) [][]impl.Value {
	lists := [][]impl.Value{}
	for _, r := range a.rows {
		lists = append(lists, r.Cols)
	}
	for _, r := range a.log {
		lists = append(lists, r.Row.Cols)
	}
	return lists
}

// Promise 19: no two lists of one answer share any: each is written over with a number of its own, behind its length too, and shows no other's.
func TestListsOfOneAnswerOfChapter10ShareNone(t *testing.T) {
	many := 0
	eachOf10(func(c call10, a asked10) {
		lists := colsOf(c.ask(a))
		for i, cols := range lists {
			cols = cols[:cap(cols)]
			for k := range cols {
				cols[k] = number(5000 + i)
			}
			many += len(cols)
		}
		for i, cols := range lists {
			for _, v := range cols[:cap(cols)] {
				if v != number(5000+i) {
					t.Fatalf("%s of %v: lists %d and %d share memory", c.name, a, i, v.N-5000)
				}
			}
		}
	})
	if many < 10000 {
		t.Errorf("%d values were written over", many)
	}
}

// Promise 19: nothing lies behind an answer's lists, and beside a false there is none.
func TestNothingLiesBehindAnswersOfChapter10(t *testing.T) {
	eachOf10(func(c call10, a asked10) {
		got := c.ask(hidingAsked10(a, number(1), number(2)))
		for _, cols := range colsOf(got) {
			for _, v := range cols[len(cols):cap(cols)] {
				refusedValue(t, c.name+" behind its answer", v, false)
			}
		}
		for _, r := range got.rows[len(got.rows):cap(got.rows)] {
			refusedRow(t, c.name+" behind its answer", r, false)
		}
		for _, r := range got.log[len(got.log):cap(got.log)] {
			if !sameRecord(r, impl.Record{}) {
				t.Errorf("%s hands out %v behind its records", c.name, r)
			}
		}
		if !got.ok && (cap(got.rows)+cap(got.log)+got.many != 0 || got.text != "") {
			t.Errorf("%s of %v tells %v beside a false", c.name, a, got)
		}
	})
}

// Rows, and those of records, may share memory among themselves: an answer's do not.
func TestLogsWhoseRowsShareMemory(t *testing.T) {
	line := []impl.Value{number(1), null, number(1), null, number(1)}
	l := []impl.Record{put(1, 2, line[0:3]...), put(2, 4, line[1:4]...), put(3, 6, line[2:5]...), put(4, 2, line[1:4]...)}
	rows := []impl.Row{row(4, line[0:3]...), row(8, line[0:3]...)}
	want, many := wantedReplay(rows, l, 0)
	wantReplayed(t, rows, l, 0, want, many)
	got, _, _ := impl.ReplayLog(rows, l, 0)
	for i := range got {
		before := copyRows(got)
		before[i].Cols = repeatedValue(number(-404), 3)
		copy(got[i].Cols, before[i].Cols)
		if !sameRows(got, before) {
			t.Errorf("rows of ReplayLog share memory: %v", got)
		}
	}
	if !slices.Equal(line, []impl.Value{number(1), null, number(1), null, number(1)}) {
		t.Errorf("what the rows share became %v", line)
	}
}

// What is behind a length is none: it neither spoils a record or a log nor is part of them.
func TestWhatIsBehindTheLengthOfRecordsDoesNotCount(t *testing.T) {
	r := drop(1, 5)
	r.Row.Cols = []impl.Value{number(1), null, number(5000)}[:0]
	got, ok := impl.RecordText(r)
	wantText(t, "RecordText of a Drop with values behind its length", got, ok, "1 d 5 806\n")
	r = impl.Record{No: 1, Row: impl.Row{Key: 5, Cols: []impl.Value{null, null, null}[:2]}}
	got, ok = impl.RecordText(r)
	refusedText(t, "RecordText of a row whose value is behind the length", got, ok)
	r.Row.Cols = []impl.Value{null, null, null, number(5000)}[:3]
	got, ok = impl.RecordText(r)
	wantText(t, "RecordText of a row with more behind it", got, ok, "1 p 5 - - - 2825\n")
	l := logOf("p5 d6 p7")
	l[2].No = 9
	got, ok = impl.LogText(l[:2])
	wantText(t, "LogText of two of three", got, ok, wantedText(l[:2]))
	wantReplayed(t, nil, l[:2], 0, []impl.Row{rowOf(5, 1)}, 2)
	wantRead(t, "a text with its end behind it", "1 d 5 806\n2 d 6 812\n"[:19], logOf("d5"), 10)
}
