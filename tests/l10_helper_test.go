package tests

import (
	"fmt"
	"regexp"
	"slices"
	"strconv"
	"strings"
	"testing"

	"loop.example/g00641/impl"
)

func drop(no int, key int) impl.Record {
	return impl.Record{No: no, Drop: true, Row: row(key)}
}

func put(no int, key int, cols ...impl.Value) impl.Record {
	return impl.Record{No: no, Row: row(key, cols...)}
}

// logOf reads a record a word, with Nos from 1 on: "p5 d7" puts a row of 5, unlike that of any other No, and drops 7.
func logOf(text string) []impl.Record {
	l := []impl.Record{}
	for i, word := range strings.Fields(text) {
		key, _ := strconv.Atoi(word[1:])
		if word[0] == 'd' {
			l = append(l, drop(i+1, key))
		} else {
			l = append(l, impl.Record{No: i + 1, Row: rowOf(key, i+1)})
		}
	}
	return l
}

func sameRecord(a impl.Record, b impl.Record) bool {
	return a.No == b.No && a.Drop == b.Drop && sameRow(a.Row, b.Row)
}

func sameLog(a []impl.Record, b []impl.Record) bool {
	return slices.EqualFunc(a, b, sameRecord)
}

func copyRecord(r impl.Record) impl.Record {
	return impl.Record{No: r.No, Drop: r.Drop, Row: copyRow(r.Row)}
}

func copyLog(l []impl.Record) []impl.Record {
	all := []impl.Record{}
	for _, r := range l {
		all = append(all, copyRecord(r))
	}
	return all
}

func wantText(t *testing.T, what string, got string, ok bool, want string) {
	t.Helper()
	if got != want || !ok {
		t.Errorf("%s: got %q, %v; want %q, true", what, got, ok, want)
	}
}

func refusedText(t *testing.T, what string, got string, ok bool) {
	t.Helper()
	if got != "" || ok {
		t.Errorf("%s: got %q, %v; want none, false", what, got, ok)
	}
}

func wantCut(t *testing.T, text string, keep int, want []impl.Record) {
	t.Helper()
	if got, ok := impl.CutLog(text, keep); !sameLog(got, want) || !ok {
		t.Errorf("CutLog of %q, %d: got %v, %v; want %v, true", text, keep, got, ok, want)
	}
}

func refusedCut(t *testing.T, text string, keep int) {
	t.Helper()
	if got, ok := impl.CutLog(text, keep); len(got) != 0 || ok {
		t.Errorf("CutLog of %d bytes, %d: got %v, %v; want none, false", len(text), keep, got, ok)
	}
}

// wantRead asks ReadLog for these records and so many bytes.
func wantRead(t *testing.T, what string, text string, want []impl.Record, at int) {
	t.Helper()
	got, many, ok := impl.ReadLog(text)
	if !sameLog(got, want) || many != at || !ok {
		t.Errorf("ReadLog of %q, %s: got %v, %d, %v; want %v, %d, true", text, what, got, many, ok, want, at)
	}
}

func refusedRead(t *testing.T, what string, text string) {
	t.Helper()
	got, many, ok := impl.ReadLog(text)
	if len(got) != 0 || many != 0 || ok {
		t.Errorf("ReadLog of %s: got %v, %d, %v; want none, 0, false", what, got, many, ok)
	}
}

func wantReplayed(t *testing.T, rows []impl.Row, l []impl.Record, from int, want []impl.Row, wantMany int) {
	t.Helper()
	got, many, ok := impl.ReplayLog(rows, l, from)
	if !sameRows(got, want) || many != wantMany || !ok || !impl.GoodTable(got) {
		t.Errorf("ReplayLog of %v, %v, %d: got %v, %d, %v; want %v, %d, true", rows, l, from, got, many, ok, want, wantMany)
	}
}

func refusedReplay(t *testing.T, rows []impl.Row, l []impl.Record, from int) {
	t.Helper()
	got, many, ok := impl.ReplayLog(rows, l, from)
	if len(got) != 0 || many != 0 || ok {
		t.Errorf("ReplayLog of %v, %v, %d: got %v, %d, %v; want none, 0, false", rows, l, from, got, many, ok)
	}
}

// bytesSum tells the sum in another way: a byte counts once for its own place and once for each ahead of it, so all bytes from each place on are added.
func bytesSum(text string) int {
	sum := 0
	for from := range len(text) {
		for _, b := range []byte(text[from:]) {
			sum += int(b)
		}
	}
	return sum % 9973
}

// lineBy makes a line of any text, with its own sum behind it, so that nothing is wrong with it but the text.
func lineBy(text string) string {
	return fmt.Sprintf("%s %d\n", text, bytesSum(text))
}

func signOf(v impl.Value) string {
	if v.Null {
		return "-"
	}
	return fmt.Sprint(v.N)
}

func wantedLine(r impl.Record) string {
	if r.Drop {
		return lineBy(fmt.Sprintf("%d d %d", r.No, r.Row.Key))
	}
	c := r.Row.Cols
	return lineBy(fmt.Sprintf("%d p %d %s %s %s", r.No, r.Row.Key, signOf(c[0]), signOf(c[1]), signOf(c[2])))
}

func wantedText(l []impl.Record) string {
	text := ""
	for _, r := range l {
		text += wantedLine(r)
	}
	return text
}

// endsOf are the numbers of bytes behind each line of a text, 0 ahead of the first one.
func endsOf(l []impl.Record) []int {
	ends := []int{0}
	for i, r := range l {
		ends = append(ends, ends[i]+len(wantedLine(r)))
	}
	return ends
}

// The tests read by a pattern: 1 is the text, 2 the No, 3 or 4 the Key, 5 to 7 the values, 8 the sum.
var lineForm = regexp.MustCompile(strings.NewReplacer("N", "(0|[1-9][0-9]*)", "V", "(-|0|-?[1-9][0-9]*)").Replace(`^(N (?:d N|p N V V V)) N` + "\n"))

func recordBy(form []string) (impl.Record, bool) {
	no, _ := strconv.Atoi(form[2])
	key, fault := strconv.Atoi(form[3] + form[4])
	r := impl.Record{No: no, Drop: form[3] != "", Row: row(key)}
	good := fault == nil && key <= 999
	for _, word := range form[5:8] {
		if r.Drop {
			continue
		}
		n, fault := strconv.Atoi(word)
		good = good && (word == "-" || fault == nil && n >= -1000 && n <= 1000)
		r.Row.Cols = append(r.Row.Cols, impl.Value{Null: word == "-", N: n})
	}
	return r, good
}

func wantedRead(s string) ([]impl.Record, int) {
	l, at := []impl.Record{}, 0
	for len(l) < 40 {
		form := lineForm.FindStringSubmatch(s[at:])
		if form == nil || form[2] != fmt.Sprint(len(l)+1) || form[8] != fmt.Sprint(bytesSum(form[1])) {
			break
		}
		r, good := recordBy(form)
		if !good {
			break
		}
		l, at = append(l, r), at+len(form[0])
	}
	return l, at
}

// wantedDo tells what a good record makes of a good table: only a new row for a full one is too much.
func wantedDo(rows []impl.Row, r impl.Record) ([]impl.Row, bool) {
	if r.Drop {
		return wantDrop(rows, r.Row.Key), true
	}
	next := wantPut(rows, r.Row)
	return next, len(next) <= 20
}

func wantedReplay(rows []impl.Row, l []impl.Record, from int) ([]impl.Row, int) {
	rows, many := copyRows(rows), 0
	for i := from; i < len(l); i++ {
		if next, ok := wantedDo(rows, l[i]); ok {
			rows, many = next, many+1
		}
	}
	return rows, many
}

var someValues = []impl.Value{null, number(0), number(1), number(-1), number(9), number(10), number(-10), number(99), number(-999), number(1000), number(-1000)}

// edgeRecords stand at the ends of what Nos, Keys and values may be, and where one more digit comes.
func edgeRecords() []impl.Record {
	l := []impl.Record{}
	for i, no := range []int{1, 2, 9, 10, 11, 40, 41, 99, 100, 101, 199, 200} {
		for k, key := range []int{0, 1, 9, 10, 99, 100, 500, 998, 999} {
			at := i + k
			l = append(l, drop(no, key), put(no, key, someValues[at%11], someValues[(at*3+1)%11], someValues[(at*7+i)%11]))
		}
	}
	for _, a := range someValues {
		for _, b := range someValues {
			l = append(l, put(1, 7, a, b, null), put(200, 999, b, number(-1000), a))
		}
	}
	return l
}

func badRecords() []impl.Record {
	l := []impl.Record{{}, {Drop: true}, {No: 1}, {No: 1, Row: row(5)}}
	for _, no := range append([]int{-200, -1, 0, 201, 202, 1000}, extremes...) {
		l = append(l, drop(no, 5), drop(no, 0), impl.Record{No: no, Row: rowOf(5, 1)}, impl.Record{No: no, Row: row(0, null, null, null)})
	}
	for _, key := range append([]int{-1000, -1, 1000, 1001}, extremes...) {
		l = append(l, drop(1, key), put(1, key, null, number(1), number(2)))
	}
	for _, r := range badRows() {
		l = append(l, impl.Record{No: 1, Row: r})
		if len(r.Cols) > 0 {
			l = append(l, impl.Record{No: 1, Drop: true, Row: r})
		}
	}
	for _, cols := range [][]impl.Value{{null}, {{}}, {null, null, null}, {{}, {}, {}}, {number(1), null, number(-1)}} {
		l = append(l, impl.Record{No: 1, Drop: true, Row: row(5, cols...)})
	}
	return l
}

// madeLogs are so many, of up to 40 records, by a fixed rule that spreads them: of few keys and of many, of few drops and of many, with short values and with long ones.
func madeLogs(many int) [][]impl.Record {
	next := spreading(31)
	all := [][]impl.Record{}
	for i := range many {
		keys, bound := []int{3, 12, 20, 30, 1000}[i%5], []int{1, 9, 1000}[i%3]
		l := []impl.Record{}
		for no := range next(41) {
			cols := []impl.Value{null, null, null}
			for col := range cols {
				if next(4) > 0 {
					cols[col] = number(next(2*bound+1) - bound)
				}
			}
			if next(8) < i%7 {
				l = append(l, drop(no+1, next(keys)))
			} else {
				l = append(l, put(no+1, next(keys), cols...))
			}
		}
		all = append(all, l)
	}
	return all
}

func edgeLogs() [][]impl.Record {
	wide := []impl.Record{}
	for no := 1; no <= 40; no++ {
		wide = append(wide, put(no, 960+no-1, number(-1000), number(1000), number(-1000)))
	}
	all := [][]impl.Record{nil, {}, wide, wide[:1], wide[:20], logOfBytes(599), logOfBytes(600), logOfBytes(601), logOfBytes(602)}
	for _, text := range []string{
		"p5", "d5", "p5 d5", "d5 p5", "p5 p5", "p5 d5 p5", "p5 p7 d5", "p0 p999", "d0 d999", "p1 p2 p3 p4 p5 p6 p7 p8 p9 p10 p11",
		strings.Repeat("d5 ", 39), strings.Repeat("d5 ", 40), strings.Repeat("p5 ", 40), strings.Repeat("p5 d5 ", 20), strings.Repeat("d999 ", 40),
	} {
		all = append(all, logOf(text))
	}
	return all
}

// logOfBytes is a log whose text has so many bytes.
func logOfBytes(many int) []impl.Record {
	for _, l := range madeLogs(300) {
		at := slices.Index(endsOf(l), many)
		if at > 0 {
			return l[:at]
		}
	}
	return nil
}

func goodLogs() [][]impl.Record {
	return slices.Concat(edgeLogs(), madeLogs(150))
}

// shortLogs are those good logs whose text is not too long.
func shortLogs() [][]impl.Record {
	return slices.DeleteFunc(goodLogs(), func(l []impl.Record) bool { return len(wantedText(l)) > 600 })
}

// badLogs are too long, have Nos that do not rise one by one from 1, or a bad record.
func badLogs() [][]impl.Record {
	all := [][]impl.Record{logOf(strings.Repeat("d5 ", 41)), logOf(strings.Repeat("p5 ", 41)), logOf(strings.Repeat("d5 ", 200)), logOf(strings.Repeat("d5 ", 1000))}
	for _, nos := range [][]int{{0}, {2}, {-1}, {200}, {0, 1}, {1, 1}, {1, 3}, {2, 1}, {2, 3}, {1, 0}, {1, 2, 2}, {1, 2, 4}, {1, 3, 2}, {1, 2, 1}, {3, 2, 1}, {1, 200}, {199, 200}} {
		drops, puts := []impl.Record{}, []impl.Record{}
		for _, no := range nos {
			drops, puts = append(drops, drop(no, 5)), append(puts, put(no, 5, null, null, null))
		}
		all = append(all, drops, puts)
	}
	for i, bad := range badRecords() {
		for _, at := range []int{0, i % 7, 6} {
			l := logOf("p5 d5 p6 p7 d8 p5 p9")
			l[at] = bad
			if bad.No == 1 {
				l[at].No = at + 1
			}
			all = append(all, l)
		}
	}
	return all
}
