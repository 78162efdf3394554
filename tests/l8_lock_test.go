package tests

import (
	"fmt"
	"slices"
	"testing"

	"loop.example/g00641/impl"
)

func TestLimitsOfChapter8(t *testing.T) {
	wantInt(t, "MaxAsks", impl.MaxAsks, true, 40)
}

func TestNewLocks(t *testing.T) {
	l := impl.NewLocks()
	if len(l.Readers) != 4 || len(l.Writers) != 4 || len(l.Over) != 0 || !impl.GoodLocks(l) {
		t.Fatalf("NewLocks: got %v", l)
	}
	for item := range 4 {
		wantList(t, fmt.Sprint("readers of ", item), l.Readers[item], true, nil)
		wantInt(t, fmt.Sprint("writer of ", item), l.Writers[item], true, -1)
	}
}

func TestGoodLocks(t *testing.T) {
	for _, l := range goodLocks() {
		if !impl.GoodLocks(l) {
			t.Errorf("%v are not good", l)
		}
	}
	for _, l := range badLocks() {
		if impl.GoodLocks(l) {
			t.Errorf("%v are good", l)
		}
	}
}

// Locks are good just where asks lead to them: all short lists are tried, of one item at each place.
func TestGoodLocksAreThoseThatAsksLeadTo(t *testing.T) {
	readers := [][]int{nil, {0, 1, 2}, {1, 2, 3}, {0, 1, 2, 3}, {0, 2, 1}, {1, 1, 2}, {0, 1, 2, 4}, {0, 1, 2, 3, 3}}
	for a := -1; a <= 4; a++ {
		readers = append(readers, []int{a})
		for b := -1; b <= 4; b++ {
			readers = append(readers, []int{a, b})
		}
	}
	overs := slices.Concat(overLists(), [][]int{{0, 0}, {1, 2, 1}, {-1}, {4}, {3, 4}, {0, 1, 2, 3, 0}, {0, 1, 2, 3, 4}})
	good, bad := 0, 0
	for i, over := range overs {
		for k, who := range readers {
			for writer := -2; writer <= 4; writer++ {
				l := locks("", over...)
				l.Readers[(i+k)%4] = who
				l.Writers[(i+k)%4] = writer
				want := isLedTo(l)
				if impl.GoodLocks(l) != want {
					t.Fatalf("GoodLocks of %v: got %v", l, !want)
				}
				if want {
					good++
				} else {
					bad++
				}
			}
		}
	}
	if good < 250 || bad < 5000 {
		t.Errorf("%d good locks were tried, and %d others", good, bad)
	}
}

// What is told by an ask hangs on what is held alone, so that any asks that lead to the same locks serve.
func TestAskLockAndWaitsFor(t *testing.T) {
	done, kept := 0, 0
	for _, d := range append(madeDiaries(80), diary{}) {
		l := d.locks()
		for _, a := range slices.Concat(goodAsks(), badAsks()[:40]) {
			what := fmt.Sprint(l, a)
			got, ok := impl.AskLock(l, a)
			waits, known := impl.WaitsFor(l, a)
			if d.grants(a) {
				done++
				wantLocks(t, "AskLock of "+what, got, ok, d.with(a).locks())
			} else {
				refusedLocks(t, "AskLock of "+what, got, ok)
			}
			if !d.isAsked(a) || a.End {
				refusedList(t, "WaitsFor of "+what, waits, known)
				continue
			}
			kept += len(d.keepers(a))
			wantList(t, "WaitsFor of "+what, waits, known, d.keepers(a))
		}
	}
	if done < 3000 || kept < 3000 {
		t.Errorf("%d asks were granted, and %d kept others from theirs", done, kept)
	}
}

func TestAskLockPlainly(t *testing.T) {
	for _, c := range []struct {
		what   string
		l      impl.Locks
		a      string
		result impl.Locks
	}{
		{"the first read", locks(""), "0r0", locks("0r0")}, {"the first write", locks(""), "0w0", locks("0w0")}, {"the last one's read of the last", locks(""), "3r3", locks("3r3")}, {"the last one's write of the last", locks(""), "3w3", locks("3w3")},
		{"another reader", locks("1r0"), "2r0", locks("1r0 2r0")}, {"a reader ahead of others", locks("1r2 3r2"), "0r2", locks("0r2 1r2 3r2")}, {"a reader between others", locks("0r2 3r2"), "1r2", locks("0r2 1r2 3r2")}, {"the last reader of all", locks("0r2 1r2 3r2"), "2r2", locks("0r2 1r2 2r2 3r2")},
		{"a reader that reads again", locks("1r1"), "1r1", locks("1r1")}, {"one of several that reads again", locks("0r1 1r1 3r1"), "1r1", locks("0r1 1r1 3r1")},
		{"a reader that writes, alone", locks("2r3"), "2w3", locks("2r3 2w3")}, {"a writer that reads", locks("2w3"), "2r3", locks("2r3 2w3")}, {"a writer that writes again", locks("2w3"), "2w3", locks("2w3")},
		{"one that reads and writes reads again", locks("2r3 2w3"), "2r3", locks("2r3 2w3")}, {"one that reads and writes writes again", locks("2r3 2w3"), "2w3", locks("2r3 2w3")},
		{"a read of another item than is written", locks("0w0"), "1r1", locks("0w0 1r1")}, {"a write of another item than is written", locks("0w0"), "1w1", locks("0w0 1w1")}, {"a write of another item than is read", locks("0r0 2r0"), "1w3", locks("0r0 2r0 1w3")},
		{"a read where one is over", locks("", 0), "1r0", locks("1r0", 0)}, {"a write by the last one left", locks("", 3, 0, 2), "1w0", locks("1w0", 3, 0, 2)},
		{"an end of one that holds nothing", locks(""), "0e", locks("", 0)}, {"the last one's end", locks(""), "3e", locks("", 3)}, {"an end of one that holds nothing beside others", locks("0r0 1w1"), "2e", locks("0r0 1w1", 2)},
		{"an end of a reader", locks("2r2"), "2e", locks("", 2)}, {"an end of a writer", locks("2w2"), "2e", locks("", 2)}, {"an end of one that reads and writes", locks("2r2 2w2"), "2e", locks("", 2)},
		{"an end of one of several readers", locks("0r1 2r1 3r1"), "2e", locks("0r1 3r1", 2)}, {"an end of the first reader", locks("0r1 2r1 3r1"), "0e", locks("2r1 3r1", 0)}, {"an end of the last reader", locks("0r1 2r1 3r1"), "3e", locks("0r1 2r1", 3)},
		{"an end of one that holds several", locks("1r0 1w1 1r2 1w2 1w3"), "1e", locks("", 1)}, {"an end of one that holds several among others", locks("1r0 3r0 1w1 2r2 2w2 0r3 1r3"), "1e", locks("3r0 2r2 2w2 0r3", 1)},
		{"an end behind another one", locks("0w0", 2), "0e", locks("", 2, 0)}, {"the last end", locks("0w0 0r3", 3, 1, 2), "0e", locks("", 3, 1, 2, 0)}, {"an end of a lesser one behind a greater", locks("1r1", 3), "0e", locks("1r1", 3, 0)},
	} {
		got, ok := impl.AskLock(c.l, ask(c.a))
		wantLocks(t, "AskLock: "+c.what, got, ok, c.result)
	}
}

func TestWaitsForPlainly(t *testing.T) {
	for _, c := range []struct {
		what string
		l    impl.Locks
		a    string
		want []int
	}{
		{"nothing held", locks(""), "0w0", nil}, {"a read that is granted", locks("1r0"), "0r0", nil}, {"a write that is granted", locks("1w0"), "0w1", nil}, {"a read of what another writes", locks("1w0"), "0r0", []int{1}}, {"a write of what another writes", locks("1w0"), "0w0", []int{1}},
		{"a write of what another reads", locks("0r3"), "3w3", []int{0}}, {"a write of what another reads and writes", locks("1r0 1w0"), "0w0", []int{1}}, {"a read of what another reads and writes", locks("1r0 1w0"), "0r0", []int{1}},
		{"a write of what several read", locks("0r2 1r2 3r2"), "2w2", []int{0, 1, 3}}, {"a write of what all read", locks("0r2 1r2 2r2 3r2"), "1w2", []int{0, 2, 3}}, {"a read of what all read", locks("0r2 1r2 2r2 3r2"), "1r2", nil},
		{"a write of its own read", locks("1r2"), "1w2", nil}, {"a write of its own and another read", locks("1r2 3r2"), "1w2", []int{3}}, {"a write of its own write", locks("1w2 1r2"), "1w2", nil}, {"a read of its own write", locks("1w2"), "1r2", nil},
		{"a write where others hold other items", locks("0w0 1w1 2r2 3w3"), "3w2", []int{2}}, {"a write where one is over", locks("0r0 3r0", 2), "1w0", []int{0, 3}}, {"a read where the others are over", locks("", 3, 0, 2), "1r0", nil},
	} {
		got, ok := impl.WaitsFor(c.l, ask(c.a))
		wantList(t, "WaitsFor: "+c.what, got, ok, c.want)
		told, ok := impl.AskLock(c.l, ask(c.a))
		if ok != (len(c.want) == 0) {
			t.Errorf("AskLock: %s: got %v, %v", c.what, told, ok)
		}
	}
}

// An ask that is not as said is neither granted nor waited with.
func TestAsksThatAreNotAsSaid(t *testing.T) {
	refused := func(l impl.Locks, a impl.Ask) {
		t.Helper()
		got, ok := impl.AskLock(l, a)
		refusedLocks(t, fmt.Sprint("AskLock of ", l, a), got, ok)
		waits, ok := impl.WaitsFor(l, a)
		refusedList(t, fmt.Sprint("WaitsFor of ", l, a), waits, ok)
	}
	for _, l := range edgeLocks() {
		for _, a := range badAsks() {
			refused(l, a)
		}
	}
	for _, l := range goodLocks() {
		for _, a := range goodAsks() {
			if slices.Contains(l.Over, a.Who) {
				refused(l, a)
			} else if a.End {
				waits, ok := impl.WaitsFor(l, a)
				refusedList(t, fmt.Sprint("WaitsFor of ", l, a), waits, ok)
			}
		}
	}
}

func TestBadLocksAreRefused(t *testing.T) {
	for _, l := range badLocks() {
		what := fmt.Sprint(" of ", l)
		for _, a := range slices.Concat(goodAsks(), badAsks()[:20]) {
			got, ok := impl.AskLock(l, a)
			refusedLocks(t, "AskLock"+what, got, ok)
			waits, ok := impl.WaitsFor(l, a)
			refusedList(t, "WaitsFor"+what, waits, ok)
		}
		for who := -1; who <= 4; who++ {
			held, ok := impl.HeldBy(l, who)
			refusedList(t, "HeldBy"+what, held, ok)
		}
	}
}

func TestPlayLocks(t *testing.T) {
	with, without := 0, 0
	for _, l := range madeAsks(1500) {
		want, ok := wantedGame(l)
		if ok {
			with++
			wantGame(t, "made", l, want)
		} else {
			without++
			refusedGame(t, "made", l)
		}
	}
	if with < 1000 || without < 50 {
		t.Errorf("%d lists of asks with an answer were tried, and %d without", with, without)
	}
}

func TestPlayLocksOfAllShortLists(t *testing.T) {
	words := asks("0r0 0w0 0e 1r0 1w0 1e 3w3")
	for _, many := range []int{0, 1, 2, 3, 4} {
		lists := [][]impl.Ask{{}}
		for range many {
			longer := [][]impl.Ask{}
			for _, l := range lists {
				for _, a := range words {
					longer = append(longer, append(slices.Clone(l), a))
				}
			}
			lists = longer
		}
		for _, l := range lists {
			want, _ := wantedGame(l)
			wantGame(t, "short", l, want)
		}
	}
}

func TestPlayLocksPlainly(t *testing.T) {
	for _, c := range []struct {
		what, asks string
		want       game
	}{
		{"no ask", "", game{locks: locks("")}}, {"a read", "3r3", game{locks("3r3"), play("3r3"), told("y")}}, {"a write", "0w0", game{locks("0w0"), play("0w0"), told("y")}}, {"an end", "2e", game{locks("", 2), nil, told("y")}},
		{"a write ahead of a read", "0w0 1r0 0e 1r0", game{locks("1r0", 0), play("0w0 1r0"), told("ynyy")}}, {"a read ahead of a write", "1r0 0w0 1e 0w0", game{locks("0w0", 1), play("1r0 0w0"), told("ynyy")}},
		{"acts of one that is over", "0r0 0e 0r0 0w1 0e 1w0", game{locks("1w0", 0), play("0r0 1w0"), told("yynnny")}}, {"all over", "2r0 3e 0w1 2e 1e 0e", game{locks("", 3, 2, 1, 0), play("2r0 0w1"), told("yyyyyy")}},
		{"the same read again", "1r2 1r2 1r2", game{locks("1r2"), play("1r2 1r2 1r2"), told("yyy")}}, {"the same write again", "1w2 1w2", game{locks("1w2"), play("1w2 1w2"), told("yy")}},
		{"a reader that writes", "1r2 1w2 1r2", game{locks("1r2 1w2"), play("1r2 1w2 1r2"), told("yyy")}}, {"two readers that would write", "0r0 1r0 0w0 1w0 0e 1w0", game{locks("1r0 1w0", 0), play("0r0 1r0 1w0"), told("yynnyy")}},
		{"two that wait for each other", "0w0 1w1 0w1 1w0 0r1 1r0", game{locks("0w0 1w1"), play("0w0 1w1"), told("yynnnn")}}, {"four items", "0w0 1w1 2w2 3w3 3r0 2r1", game{locks("0w0 1w1 2w2 3w3"), play("0w0 1w1 2w2 3w3"), told("yyyynn")}},
	} {
		wantGame(t, c.what, asks(c.asks), c.want)
	}
}

// Asks that are not as said in the midst are not granted, and the others are as without them.
func TestPlayLocksOfAsksThatAreNotAsSaid(t *testing.T) {
	for _, bad := range badAsks() {
		wantGame(t, "alone", []impl.Ask{bad}, game{locks: locks(""), granted: []bool{false}})
		l := slices.Concat(asks("0w0 1r0"), []impl.Ask{bad}, asks("0e"), []impl.Ask{bad}, asks("1r0 1e"), []impl.Ask{bad})
		wantGame(t, "in the midst", l, game{locks("", 0, 1), play("0w0 1r0"), told("ynnynyyn")})
	}
	bad := badAsks()
	for i, l := range madeAsks(60) {
		without, ok := gameOf(l)
		if !ok || len(l) == 40 {
			continue
		}
		for at := range len(l) + 1 {
			want := game{without.locks, without.acts, slices.Insert(slices.Clone(without.granted), at, false)}
			wantGame(t, "between", slices.Insert(slices.Clone(l), at, bad[(i*41+at)%len(bad)]), want)
		}
	}
}

func TestPlayLocksByHowManyAsks(t *testing.T) {
	ends := asks("0e 1e 2e 3e")
	for _, late := range slices.Concat(goodAsks(), badAsks()[:10]) {
		for many := range 50 {
			l := slices.Concat(ends, slices.Repeat([]impl.Ask{late}, many))
			if len(l) > 40 {
				refusedGame(t, "too long", l)
			} else {
				wantGame(t, "long", l, game{locks: locks("", 0, 1, 2, 3), granted: slices.Concat(told("yyyy"), make([]bool, many))})
			}
		}
	}
	refusedGame(t, "much too long", slices.Repeat(ends, 1000))
	refusedGame(t, "41 that are not as said", slices.Repeat([]impl.Ask{{Who: -1}}, 41))
}

func TestPlayLocksByHowManyActs(t *testing.T) {
	for _, one := range []string{"0r0", "3w3", "2r1"} {
		for many := range 41 {
			l := slices.Repeat(asks(one), many)
			if many > 16 {
				refusedGame(t, "too many acts", l)
			} else {
				wantGame(t, "some acts", l, game{diary(l).locks(), each(many, one), slices.Repeat([]bool{true}, many)})
			}
		}
	}
	// Neither Ends nor asks that are not granted count.
	full := slices.Concat(asks("0w0"), slices.Repeat(asks("1w0"), 5), asks("3e"), slices.Repeat(asks("0r1"), 15), asks("3r3 1r0 2e 2e"))
	acts := slices.Concat(play("0w0"), each(15, "0r1"))
	wantGame(t, "16 acts among others", full, game{locks("0w0 0r1", 3, 2), acts, slices.Concat(told("ynnnnny"), slices.Repeat([]bool{true}, 15), told("nnyn"))})
	for at := range len(full) + 1 {
		refusedGame(t, "17 acts among others", slices.Insert(slices.Clone(full), at, asks("0r2")...))
	}
	wantGame(t, "16 acts and 24 that are not granted", slices.Concat(slices.Repeat(asks("0w0"), 16), slices.Repeat(asks("1w0"), 24)), game{locks("0w0"), each(16, "0w0"), slices.Concat(slices.Repeat([]bool{true}, 16), make([]bool, 24))})
}

func TestHeldBy(t *testing.T) {
	for _, l := range goodLocks() {
		for who := range 4 {
			want := []int{}
			for item := range 4 {
				if slices.Contains(l.Readers[item], who) || l.Writers[item] == who {
					want = append(want, item)
				}
			}
			got, ok := impl.HeldBy(l, who)
			wantList(t, fmt.Sprint("HeldBy of ", l, who), got, ok, want)
		}
	}
	for _, l := range edgeLocks() {
		for _, who := range slices.Concat([]int{-4, -2, -1, 4, 5}, extremes) {
			got, ok := impl.HeldBy(l, who)
			refusedList(t, fmt.Sprint("HeldBy of ", l, who), got, ok)
		}
	}
}

func TestHeldByPlainly(t *testing.T) {
	for _, c := range []struct {
		what string
		l    impl.Locks
		who  int
		want []int
	}{
		{"nothing held", locks(""), 0, nil}, {"one that is over", locks("1r1", 3), 3, nil}, {"one beside whom others hold", locks("1r1 2w2"), 0, nil}, {"a reader", locks("0r2 1r2"), 1, []int{2}}, {"a writer", locks("3w3 0w0"), 3, []int{3}},
		{"one that reads and writes an item", locks("1r1 1w1"), 1, []int{1}}, {"one that holds several", locks("1r0 2r0 3w1 2w3"), 2, []int{0, 3}}, {"one that holds all", locks("0w0 0r1 0r2 0w2 0w3"), 0, upTo(4)},
	} {
		got, ok := impl.HeldBy(c.l, c.who)
		wantList(t, "HeldBy: "+c.what, got, ok, c.want)
	}
}

func TestHasRound(t *testing.T) {
	for _, waits := range goodWaits() {
		got, ok := impl.HasRound(waits)
		if want, found := wantedRound(waits); found {
			wantList(t, fmt.Sprint("HasRound of ", waits), got, ok, want)
		} else {
			refusedList(t, fmt.Sprint("HasRound of ", waits), got, ok)
		}
	}
	for _, waits := range badWaits() {
		got, ok := impl.HasRound(waits)
		refusedList(t, fmt.Sprint("HasRound of ", waits), got, ok)
	}
}

func TestHasRoundPlainly(t *testing.T) {
	for _, c := range []struct {
		what  string
		waits []int
		want  []int
	}{
		{"nobody waits", []int{-1, -1, -1, -1}, nil}, {"one waits", []int{3, -1, -1, -1}, nil}, {"a chain", []int{1, 2, 3, -1}, nil}, {"a chain the other way", []int{-1, 0, 1, 2}, nil}, {"all wait for one", []int{3, 3, 3, -1}, nil},
		{"0 for itself", []int{0, -1, -1, -1}, []int{0}}, {"3 for itself", []int{-1, -1, -1, 3}, []int{3}}, {"all for themselves", upTo(4), []int{0}}, {"two", []int{1, 0, -1, -1}, []int{0, 1}}, {"the last two", []int{-1, -1, 3, 2}, []int{2, 3}}, {"two far apart", []int{3, -1, -1, 0}, []int{0, 3}},
		{"three", []int{1, 2, 0, -1}, []int{0, 1, 2}}, {"three the other way", []int{2, 0, 1, -1}, []int{0, 2, 1}}, {"the last three", []int{-1, 3, 1, 2}, []int{1, 3, 2}}, {"all round about", []int{1, 2, 3, 0}, []int{0, 1, 2, 3}}, {"all the other way", []int{3, 0, 1, 2}, []int{0, 3, 2, 1}}, {"all crosswise", []int{2, 3, 1, 0}, []int{0, 2, 1, 3}},
		{"0 waits for one in a round", []int{1, 2, 1, -1}, []int{1, 2}}, {"0 waits for one that waits for itself", []int{3, -1, -1, 3}, []int{3}}, {"3 waits for one in a round", []int{1, 0, -1, 1}, []int{0, 1}}, {"a chain into a round", []int{1, 2, 3, 2}, []int{2, 3}}, {"a chain into a round of three", []int{2, 3, 1, 2}, []int{1, 3, 2}}, {"all for one that waits for itself", []int{2, 2, 2, 2}, []int{2}},
		{"two rounds", []int{1, 0, 3, 2}, []int{0, 1}}, {"two rounds far apart", []int{3, 2, 1, 0}, []int{0, 3}}, {"a round behind one of one", []int{-1, 1, 3, 2}, []int{1}}, {"a round of one behind one of two", []int{2, -1, 0, 3}, []int{0, 2}},
	} {
		got, ok := impl.HasRound(c.waits)
		if c.want == nil {
			refusedList(t, "HasRound: "+c.what, got, ok)
		} else {
			wantList(t, "HasRound: "+c.what, got, ok, c.want)
		}
	}
}
