package tests

import (
	"fmt"
	"slices"
	"strings"
	"testing"

	"loop.example/g00641/impl"
)

func TestLimitsOfChapter10(t *testing.T) {
	if impl.MaxLog != 40 || impl.MaxText != 600 {
		t.Error("limits are", impl.MaxLog, impl.MaxText)
	}
}

func TestGoodRecord(t *testing.T) {
	for _, r := range edgeRecords() {
		if !impl.GoodRecord(r) {
			t.Errorf("%v is not good", r)
		}
	}
	for _, r := range badRecords() {
		if impl.GoodRecord(r) {
			t.Errorf("%v is good", r)
		}
	}
}

func TestGoodRecordByNoAndKey(t *testing.T) {
	for no := -3; no <= 205; no++ {
		for key := -3; key <= 1003; key += 1 + key%7*key%5 {
			want := no >= 1 && no <= 200 && key >= 0 && key <= 999
			if impl.GoodRecord(drop(no, key)) != want || impl.GoodRecord(put(no, key, null, number(1), null)) != want {
				t.Errorf("No %d, Key %d: not told %v", no, key, want)
			}
		}
	}
}

// A Drop has a Key alone: no list of values, however long, is good behind it; a put has just three.
func TestGoodRecordByHowManyValues(t *testing.T) {
	for many := range 30 {
		cols := repeatedValue(number(0), many)
		if impl.GoodRecord(impl.Record{No: 1, Drop: true, Row: row(5, cols...)}) != (many == 0) {
			t.Errorf("a Drop with %d values is told %v", many, many != 0)
		}
		if impl.GoodRecord(put(1, 5, cols...)) != (many == 3) {
			t.Errorf("a put with %d values is told %v", many, many != 3)
		}
	}
}

func TestRecordTextPlainly(t *testing.T) {
	for _, c := range []struct {
		r    impl.Record
		want string
	}{
		{drop(1, 5), "1 d 5 806\n"}, {drop(1, 0), "1 d 0 781\n"}, {drop(200, 999), "200 d 999 2478\n"}, {drop(10, 10), "10 d 10 1431\n"},
		{put(1, 5, null, null, null), "1 p 5 - - - 2825\n"}, {put(2, 5, number(-1), null, number(1)), "2 p 5 -1 - 1 3420\n"},
		{put(1, 0, number(0), number(0), number(0)), "1 p 0 0 0 0 2881\n"}, {put(40, 999, number(-1000), number(1000), number(-1000)), "40 p 999 -1000 1000 -1000 5200\n"},
		{put(200, 999, number(-1000), number(-1000), number(-1000)), "200 p 999 -1000 -1000 -1000 7682\n"},
		{put(1, 333, number(-1000), number(-588), number(5)), "1 p 333 -1000 -588 5 0\n"}, {put(1, 999, number(-1000), number(165), number(50)), "1 p 999 -1000 165 50 0\n"},
	} {
		got, ok := impl.RecordText(c.r)
		wantText(t, fmt.Sprint("RecordText of ", c.r), got, ok, c.want)
	}
}

func TestRecordText(t *testing.T) {
	for _, r := range edgeRecords() {
		got, ok := impl.RecordText(r)
		wantText(t, fmt.Sprint("RecordText of ", r), got, ok, wantedLine(r))
	}
	for _, r := range badRecords() {
		got, ok := impl.RecordText(r)
		refusedText(t, fmt.Sprint("RecordText of ", r), got, ok)
	}
}

func TestRecordTextOfEachNoKeyAndValue(t *testing.T) {
	for n := -1000; n <= 1000; n++ {
		r := put(1+(n+1000)%200, (n+1000)%1000, number(n), null, number(-n))
		got, ok := impl.RecordText(r)
		wantText(t, fmt.Sprint("RecordText of ", r), got, ok, wantedLine(r))
		r = drop(r.No, r.Row.Key)
		got, ok = impl.RecordText(r)
		wantText(t, fmt.Sprint("RecordText of ", r), got, ok, wantedLine(r))
	}
}

// A sum starts anew at 9973: there are lines that end in 0, in one digit and in 9972, without noughts ahead, and these are read again.
func TestSumsStartAnew(t *testing.T) {
	told := map[int]bool{}
	for n := -1000; n <= 1000; n++ {
		for _, key := range []int{7, 90, 101, 333, 999} {
			r := put(1, key, number(-1000), number(n), []impl.Value{null, number(5), number(50), number(-1000)}[(n+key)&3])
			line := wantedLine(r)
			got, ok := impl.RecordText(r)
			wantText(t, fmt.Sprint("RecordText of ", r), got, ok, line)
			wantRead(t, "by its sum", line, []impl.Record{r}, len(line))
			told[bytesSum(line[:strings.LastIndex(line, " ")])] = true
		}
	}
	for _, sum := range []int{0, 1, 9, 10, 99, 100, 9971, 9972} {
		if !told[sum] {
			t.Errorf("no sum was %d", sum)
		}
	}
}

func TestLogText(t *testing.T) {
	short, long := 0, 0
	for _, l := range goodLogs() {
		got, ok := impl.LogText(l)
		if want := wantedText(l); len(want) <= 600 {
			short++
			wantText(t, fmt.Sprint("LogText of ", l), got, ok, want)
		} else {
			long++
			refusedText(t, fmt.Sprint("LogText of ", l), got, ok)
		}
	}
	if short < 100 || long < 20 {
		t.Errorf("%d logs were short, %d too long", short, long)
	}
	for _, l := range badLogs() {
		got, ok := impl.LogText(l)
		refusedText(t, fmt.Sprint("LogText of ", l), got, ok)
	}
}

func TestLogTextAtItsLimits(t *testing.T) {
	for many := 580; many <= 620; many++ {
		l := logOfBytes(many)
		if len(l) == 0 {
			t.Fatalf("no log of %d bytes", many)
		}
		got, ok := impl.LogText(l)
		if many <= impl.MaxText {
			wantText(t, fmt.Sprint("LogText of ", many), got, ok, wantedText(l))
			wantRead(t, fmt.Sprint(many, " bytes"), got, l, many)
		} else {
			refusedText(t, fmt.Sprint("LogText of ", many), got, ok)
			refusedRead(t, fmt.Sprint(many, " bytes"), wantedText(l))
		}
	}
	for many := 38; many <= 43; many++ {
		l := logOf(strings.Repeat("d5 ", many))
		got, ok := impl.LogText(l)
		if many <= impl.MaxLog {
			wantText(t, fmt.Sprint("LogText of records ", many), got, ok, wantedText(l))
		} else {
			refusedText(t, fmt.Sprint("LogText of records ", many), got, ok)
		}
	}
	got, ok := impl.LogText(nil)
	wantText(t, "LogText of no records", got, ok, "")
}

func TestDoRecord(t *testing.T) {
	for _, rows := range goodTables() {
		for _, key := range []int{0, 1, 3, 4, 10, 11, 46, 48, 49, 500, 998, 999} {
			for _, r := range []impl.Record{drop(1, key), drop(200, key), {No: 7, Row: rowOf(key, 2)}, put(200, key, null, null, null)} {
				got, ok := impl.DoRecord(rows, r)
				if want, fits := wantedDo(rows, r); fits {
					wantRows(t, fmt.Sprint("DoRecord of ", rows, r), got, ok, want)
				} else {
					refusedRows(t, fmt.Sprint("DoRecord of ", rows, r), got, ok)
				}
			}
		}
	}
}

func TestDoRecordPlainly(t *testing.T) {
	l := tableOf(2, 4)
	got, ok := impl.DoRecord(l, drop(1, 4))
	wantRows(t, "a Key that is there, dropped", got, ok, tableOf(2))
	got, ok = impl.DoRecord(l, drop(1, 3))
	wantRows(t, "a Key that is not there, dropped", got, ok, l)
	got, ok = impl.DoRecord(nil, drop(1, 3))
	wantRows(t, "a Key of no table, dropped", got, ok, nil)
	got, ok = impl.DoRecord(l, put(1, 4, null, null, number(9)))
	wantRows(t, "a Key that is there, put", got, ok, []impl.Row{rowOf(2, 1), row(4, null, null, number(9))})
	got, ok = impl.DoRecord(l, put(1, 3, null, null, number(9)))
	wantRows(t, "a Key that is not there, put", got, ok, []impl.Row{rowOf(2, 1), row(3, null, null, number(9)), rowOf(4, 1)})
	full := manyRows(20)
	got, ok = impl.DoRecord(full, impl.Record{No: 1, Row: rowOf(11, 2)})
	refusedRows(t, "a new Key of a full table, put", got, ok)
	got, ok = impl.DoRecord(full, impl.Record{No: 1, Row: rowOf(12, 2)})
	wantRows(t, "a Key of a full table that is there, put", got, ok, wantPut(full, rowOf(12, 2)))
	got, ok = impl.DoRecord(full, drop(1, 11))
	wantRows(t, "a new Key of a full table, dropped", got, ok, full)
	got, ok = impl.DoRecord(full, drop(1, 48))
	wantRows(t, "a Key of a full table that is there, dropped", got, ok, manyRows(19))
	got, ok = impl.DoRecord(manyRows(19), impl.Record{No: 1, Row: rowOf(48, 1)})
	wantRows(t, "the last row that a table may have", got, ok, full)
}

func TestDoRecordRefuses(t *testing.T) {
	for _, r := range badRecords() {
		for _, rows := range [][]impl.Row{nil, tableOf(5), tableOf(0, 1, 5, 7, 999), manyRows(20)} {
			got, ok := impl.DoRecord(rows, r)
			refusedRows(t, fmt.Sprint("DoRecord of ", rows, r), got, ok)
		}
	}
	for _, rows := range badTables() {
		for _, r := range []impl.Record{drop(1, 5), drop(1, 7), drop(1, 600), put(1, 5, null, null, null), put(1, 600, null, null, null)} {
			got, ok := impl.DoRecord(rows, r)
			refusedRows(t, fmt.Sprint("DoRecord of ", rows, r), got, ok)
		}
	}
}

func TestReplayLog(t *testing.T) {
	allTrue, someFalse := 0, 0
	for _, l := range goodLogs() {
		for _, rows := range [][]impl.Row{nil, tableOf(0, 1, 2, 998, 999), manyRows(17), manyRows(19), manyRows(20)} {
			for _, from := range []int{0, 1, len(l) / 2, max(len(l)-1, 0), len(l), len(l) + 1, 40, 41, 199, 200} {
				want, many := wantedReplay(rows, l, from)
				wantReplayed(t, rows, l, from, want, many)
				if many == len(l)-from {
					allTrue++
				} else if from < len(l) {
					someFalse++
				}
			}
		}
	}
	if allTrue < 1000 || someFalse < 1000 {
		t.Errorf("%d logs were done whole, %d in part", allTrue, someFalse)
	}
}

func TestReplayLogPlainly(t *testing.T) {
	l := logOf("p5 p7 d5 p6 d7 p5")
	start := tableOf(5, 9)
	for from, c := range []struct {
		want []impl.Row
		many int
	}{
		{[]impl.Row{rowOf(5, 6), rowOf(6, 4), rowOf(9, 1)}, 6}, {[]impl.Row{rowOf(5, 6), rowOf(6, 4), rowOf(9, 1)}, 5}, {[]impl.Row{rowOf(5, 6), rowOf(6, 4), rowOf(9, 1)}, 4},
		{[]impl.Row{rowOf(5, 6), rowOf(6, 4), rowOf(9, 1)}, 3}, {[]impl.Row{rowOf(5, 6), rowOf(9, 1)}, 2}, {[]impl.Row{rowOf(5, 6), rowOf(9, 1)}, 1}, {start, 0}, {start, 0},
	} {
		wantReplayed(t, start, l, from, c.want, c.many)
	}
	wantReplayed(t, start, l, 200, start, 0)
	wantReplayed(t, start, nil, 0, start, 0)
	wantReplayed(t, nil, nil, 200, nil, 0)
	wantReplayed(t, nil, l[:1], 0, []impl.Row{rowOf(5, 1)}, 1)
	wantReplayed(t, nil, l[:1], 1, nil, 0)
	for _, from := range append([]int{-200, -2, -1, 201, 202, 1000}, extremes...) {
		refusedReplay(t, start, l, from)
		refusedReplay(t, nil, nil, from)
	}
}

// Of records that tell false in between none changes anything, and none is counted.
func TestReplayLogOfRecordsThatTellFalse(t *testing.T) {
	full := manyRows(20)
	wantReplayed(t, full, logOf("p11 p13 p15"), 0, full, 0)
	wantReplayed(t, full, logOf("p11 d10 p11 p10"), 0, append([]impl.Row{rowOf(11, 3)}, full[1:]...), 2)
	wantReplayed(t, full, logOf("p11 p12 p13 d11 d13"), 0, wantPut(full, rowOf(12, 2)), 3)
	wantReplayed(t, full, logOf("p11 d10 p11 p10"), 1, append([]impl.Row{rowOf(11, 3)}, full[1:]...), 2)
	wantReplayed(t, full, logOf("p11 d10 p11 p10"), 2, wantPut(full, rowOf(10, 4)), 1)
	wantReplayed(t, manyRows(19), logOf("p49 p50 d49 p50"), 0, append(manyRows(19), rowOf(50, 4)), 3)
	most := logOf("p1 p2 p3 p4 p5 p6 p7 p8 p9 p10 p11 p12 p13 p14 p15 p16 p17 p18 p19 p20 p21 p22 p23 p24 p25 p26 p27 p28 p29 p30 p31 p32 p33 p34 p35 p36 p37 p38 p39 p40")
	rows := []impl.Row{}
	for _, r := range most[:20] {
		rows = append(rows, r.Row)
	}
	wantReplayed(t, nil, most, 0, rows, 20)
	wantReplayed(t, rows, most, 0, rows, 20)
	wantReplayed(t, rows, most, 20, rows, 0)
}

func TestReplayLogRefuses(t *testing.T) {
	for _, l := range badLogs() {
		for _, from := range []int{0, 1, 7, 200} {
			refusedReplay(t, tableOf(5, 9), l, from)
		}
	}
	for _, rows := range badTables() {
		for _, l := range [][]impl.Record{nil, logOf("p5 d5"), logOf("d600 p600 p5 p7")} {
			refusedReplay(t, rows, l, 0)
			refusedReplay(t, rows, l, 200)
		}
	}
}

// A log is done again whatever the length of its text would be.
func TestReplayLogOfLongTexts(t *testing.T) {
	l := logOfBytes(601)
	text, ok := impl.LogText(l)
	refusedText(t, "LogText of 601 bytes", text, ok)
	want, many := wantedReplay(nil, l, 0)
	wantReplayed(t, nil, l, 0, want, many)
}

func TestNothingIsKeptFromCallToCall(t *testing.T) {
	l := logOf("p5 d6 p7")
	for range 3 {
		wantReplayed(t, nil, l, 0, []impl.Row{rowOf(5, 1), rowOf(7, 3)}, 3)
		wantRead(t, "again", wantedText(l), l, len(wantedText(l)))
		wantRead(t, "of no line", "5 d 5", nil, 0)
		got, ok := impl.DoRecord(nil, l[1])
		wantRows(t, "DoRecord", got, ok, nil)
	}
	if !slices.EqualFunc(l, logOf("p5 d6 p7"), sameRecord) {
		t.Errorf("the log became %v", l)
	}
}
