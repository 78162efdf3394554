package tests

import (
	"fmt"
	"testing"

	"loop.example/g00641/impl"
)

// lawLogs are many, some of them with texts that are too long.
func lawLogs() [][]impl.Record {
	return append(edgeLogs(), madeLogs(600)...)
}

// startTables are what logs are done on.
func startTables() [][]impl.Row {
	return [][]impl.Row{nil, tableOf(0, 1, 2), tableOf(2, 500, 999), manyRows(19), manyRows(20)}
}

func replayed(t *testing.T, rows []impl.Row, l []impl.Record, from int) ([]impl.Row, int) {
	t.Helper()
	got, many, ok := impl.ReplayLog(rows, l, from)
	if !ok || !impl.GoodTable(got) {
		t.Fatalf("ReplayLog of %v, %v, %d: %v, %v", rows, l, from, got, ok)
	}
	return got, many
}

// keysIn tells how many keys some rows and records have together.
func keysIn(rows []impl.Row, l []impl.Record) int {
	there := map[int]bool{}
	for _, r := range rows {
		there[r.Key] = true
	}
	for _, r := range l {
		there[r.Row.Key] = true
	}
	return len(there)
}

// Promise 10: records come back from their text, all of it.
func TestRecordsComeBackFromTheirText(t *testing.T) {
	short := 0
	for _, l := range lawLogs() {
		text, ok := impl.LogText(l)
		if !ok {
			continue
		}
		short++
		wantRead(t, "of LogText", text, l, len(text))
		again, ok := impl.LogText(l)
		wantText(t, "LogText again", again, ok, text)
	}
	if short < 400 {
		t.Errorf("%d texts were read", short)
	}
}

// Promise 10: of a text that is cut, wherever it is, the first records come back: those whose lines are whole.
func TestFirstRecordsComeBackFromACutText(t *testing.T) {
	cuts := 0
	for i, l := range lawLogs() {
		text, ok := impl.LogText(l)
		if !ok || i%5 > 0 && len(text) > 200 {
			continue
		}
		ends := endsOf(l)
		whole := 0
		for keep := range len(text) + 1 {
			if whole < len(l) && ends[whole+1] == keep {
				whole++
			}
			cuts++
			wantCut(t, text, keep, l[:whole])
			wantRead(t, "cut", text[:keep], l[:whole], ends[whole])
		}
		refusedCut(t, text, len(text)+1)
		refusedCut(t, text, -1)
	}
	if cuts < 20000 {
		t.Errorf("%d texts were cut", cuts)
	}
}

// A log is the text of its records, and of records one by one.
func TestLogTextIsTheTextOfEach(t *testing.T) {
	for _, l := range lawLogs() {
		whole := ""
		for _, r := range l {
			line, ok := impl.RecordText(r)
			if !ok {
				t.Fatalf("RecordText refuses %v", r)
			}
			whole += line
		}
		got, ok := impl.LogText(l)
		if ok != (len(whole) <= 600) {
			t.Errorf("LogText of %d bytes is told %v", len(whole), ok)
		}
		if ok && got != whole {
			t.Errorf("LogText of %v: %q, not %q", l, got, whole)
		}
	}
}

// What is read of any text has just these bytes as its own text.
func TestWhatIsReadHasThatText(t *testing.T) {
	for at := range 4 {
		ahead := wantedText(logOf("p5 d7 p999 d0")[:at])
		for _, line := range faultyLines(1) {
			text := ahead + line + ahead
			l, many, ok := impl.ReadLog(text)
			got, known := impl.LogText(l)
			wantText(t, fmt.Sprintf("LogText of what is read of %q", text), got, ok && known, text[:many])
		}
	}
}

// Promise 10: a log that is done again on what it made makes the same table, wherever the first time broke off. The keys are so few that no table is full ahead of time: then a later record of each Key decides.
func TestALogDoneAgainMakesTheSameTable(t *testing.T) {
	again := 0
	for _, l := range lawLogs() {
		for _, rows := range startTables() {
			if keysIn(rows, l) > impl.MaxRows {
				continue
			}
			again++
			made, many := replayed(t, rows, l, 0)
			if many != len(l) {
				t.Errorf("ReplayLog of %v, %v: %d told true", rows, l, many)
			}
			wantReplayed(t, made, l, 0, made, len(l))
			for _, broken := range []int{0, 1, len(l) / 3, len(l) / 2, len(l)} {
				part, _ := replayed(t, rows, l[:min(broken, len(l))], 0)
				wantReplayed(t, part, l, 0, made, len(l))
			}
			for from := range len(l) + 1 {
				wantReplayed(t, made, l, from, made, len(l)-from)
			}
		}
	}
	if again < 500 {
		t.Errorf("%d logs were done again", again)
	}
}

// Promise 10: done on from where a first part stopped, a log makes what it makes as a whole, of full tables too, and as many told true.
func TestALogGoesOnWhereAPartStopped(t *testing.T) {
	for i, l := range lawLogs() {
		for _, rows := range startTables() {
			want, all := replayed(t, rows, l, 0)
			for from := i % 7; from <= len(l); from += 7 {
				part, many := replayed(t, rows, l[:from], 0)
				wantReplayed(t, part, l, from, want, all-many)
			}
		}
	}
}

// A log does what its records do one by one, those that tell false left out.
func TestALogDoesWhatItsRecordsDo(t *testing.T) {
	for _, l := range lawLogs() {
		for _, rows := range startTables() {
			want, many := rows, 0
			for _, r := range l {
				if next, ok := impl.DoRecord(want, r); ok {
					want, many = next, many+1
				}
			}
			wantReplayed(t, rows, l, 0, want, many)
		}
	}
}

// A crash: what is whole in the bytes that were written is done again, then the rest: the same table.
func TestALogComesBackFromItsCutText(t *testing.T) {
	for i, l := range lawLogs() {
		text, ok := impl.LogText(l)
		if !ok || i%4 > 0 {
			continue
		}
		for _, rows := range startTables() {
			want, all := replayed(t, rows, l, 0)
			for keep := i % 19; keep <= len(text); keep += 19 {
				first, ok := impl.CutLog(text, keep)
				if !ok {
					t.Fatalf("CutLog refuses %q, %d", text, keep)
				}
				part, many := replayed(t, rows, first, 0)
				wantReplayed(t, part, l, len(first), want, all-many)
			}
		}
	}
}

// One record done twice is as good as once.
func TestARecordDoneTwiceIsAsGoodAsOnce(t *testing.T) {
	for _, rows := range goodTables() {
		for _, r := range edgeRecords() {
			once, ok := impl.DoRecord(rows, r)
			if !ok {
				if len(rows) < impl.MaxRows || r.Drop {
					t.Errorf("DoRecord of %v, %v is refused", rows, r)
				}
				continue
			}
			twice, ok := impl.DoRecord(once, r)
			wantRows(t, fmt.Sprint("DoRecord twice of ", rows, r), twice, ok, once)
			found, there := impl.FindRow(once, r.Row.Key)
			if there == r.Drop || there && !sameRow(found, r.Row) {
				t.Errorf("DoRecord of %v, %v: then %v stands there, %v", rows, r, found, there)
			}
			wantOthersAsBefore(t, rows, once, r.Row.Key)
		}
	}
}
