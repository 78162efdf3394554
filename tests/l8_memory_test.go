package tests

import (
	"math"
	"slices"
	"testing"

	"loop.example/g00641/impl"
)

// An answer of chapter 8, whichever function told it.
type answer8 struct {
	game game
	list []int
	ok   bool
}

// What the functions of chapter 8 are asked of.
type asked8 struct {
	l     impl.Locks
	a     impl.Ask
	asks  []impl.Ask
	waits []int
}

type call8 struct {
	name string
	ask  func(a asked8) answer8
}

func listOf8(l []int, ok bool) answer8 { return answer8{list: l, ok: ok} }

func locksOf8(l impl.Locks, ok bool) answer8 { return answer8{game: game{locks: l}, ok: ok} }

// callsOf8 are all functions of chapter 8.
func callsOf8() []call8 {
	return []call8{
		{"NewLocks", func(a asked8) answer8 { return locksOf8(impl.NewLocks(), true) }},
		{"GoodLocks", func(a asked8) answer8 { return answer8{ok: impl.GoodLocks(a.l)} }},
		{"AskLock", func(a asked8) answer8 { return locksOf8(impl.AskLock(a.l, a.a)) }},
		{"PlayLocks", func(a asked8) answer8 {
			g, ok := gameOf(a.asks)
			return answer8{game: g, ok: ok}
		}},
		{"WaitsFor", func(a asked8) answer8 { return listOf8(impl.WaitsFor(a.l, a.a)) }},
		{"HeldBy", func(a asked8) answer8 { return listOf8(impl.HeldBy(a.l, a.a.Who)) }},
		{"HasRound", func(a asked8) answer8 { return listOf8(impl.HasRound(a.waits)) }},
	}
}

func sameAnswer8(a answer8, b answer8) bool {
	return sameGame(a.game, b.game) && slices.Equal(a.list, b.list) && a.ok == b.ok
}

func copyAnswer8(a answer8) answer8 {
	g := game{copyLocks(a.game.locks), slices.Clone(a.game.acts), slices.Clone(a.game.granted)}
	return answer8{g, slices.Clone(a.list), a.ok}
}

func sameAsked8(a asked8, b asked8) bool {
	return sameLocks(a.l, b.l) && a.a == b.a && slices.Equal(a.asks, b.asks) && slices.Equal(a.waits, b.waits)
}

func copyAsked8(a asked8) asked8 {
	return asked8{copyLocks(a.l), a.a, slices.Clone(a.asks), slices.Clone(a.waits)}
}

// hidingAsked8 lays all lists into memory that goes on behind them: with numbers, with lists of readers, and with asks.
func hidingAsked8(a asked8, behind ...int) asked8 {
	readers := [][]int{}
	for _, l := range a.l.Readers {
		laid, _ := hiding(l, behind...)
		readers = append(readers, laid)
	}
	for range 2 {
		readers = append(readers, slices.Clone(behind))
	}
	laid := asked8{a: a.a, asks: slices.Clone(a.asks)}
	laid.l.Readers = readers[:len(a.l.Readers)]
	laid.l.Writers, _ = hiding(a.l.Writers, behind...)
	laid.l.Over, _ = hiding(a.l.Over, behind...)
	for _, n := range behind {
		laid.asks = append(laid.asks, impl.Ask{Who: n, Item: n, Write: n > 1})
	}
	laid.asks = laid.asks[:len(a.asks)]
	laid.waits, _ = hiding(a.waits, behind...)
	return laid
}

// wholeLocks copies all that lies in the memory of l, behind its lengths too.
func wholeLocks(l impl.Locks) impl.Locks {
	all := impl.Locks{Writers: slices.Clone(l.Writers[:cap(l.Writers)]), Over: slices.Clone(l.Over[:cap(l.Over)])}
	for _, readers := range l.Readers[:cap(l.Readers)] {
		all.Readers = append(all.Readers, slices.Clone(readers[:cap(readers)]))
	}
	return all
}

func wholeAsked8(a asked8) asked8 {
	return asked8{wholeLocks(a.l), a.a, slices.Clone(a.asks[:cap(a.asks)]), slices.Clone(a.waits[:cap(a.waits)])}
}

func spoilLocks(l impl.Locks) {
	readers := l.Readers[:cap(l.Readers)]
	for i := range readers {
		spoilList(readers[i])
		readers[i] = []int{-404}
	}
	spoilList(l.Writers)
	spoilList(l.Over)
}

func spoilAnswer8(a answer8) {
	spoilLocks(a.game.locks)
	spoilPlay(a.game.acts)
	spoilList(a.list)
	granted := a.game.granted[:cap(a.game.granted)]
	for i := range granted {
		granted[i] = !granted[i]
	}
}

func spoilAsked8(a asked8) {
	spoilLocks(a.l)
	spoilList(a.waits)
	l := a.asks[:cap(a.asks)]
	for i := range l {
		l[i] = impl.Ask{Who: -404, Item: -404, Write: !l[i].Write, End: !l[i].End}
	}
}

// memoryLocks are good ones, and some that are not.
func memoryLocks() []impl.Locks {
	all := edgeLocks()
	for i, d := range madeDiaries(40) {
		if i%7 == 0 {
			all = append(all, d.locks())
		}
	}
	for i, l := range badLocks() {
		if i%9 == 0 {
			all = append(all, l)
		}
	}
	return append(all, clashingLocks()[:4]...)
}

// eachOf8 asks check of each call of chapter 8, at good arguments and others.
func eachOf8(check func(c call8, a asked8)) {
	lists := append(madeAsks(60), nil, slices.Repeat(asks("1r1"), 16), slices.Repeat(asks("1r1"), 17), slices.Repeat(asks("0e"), 40), slices.Repeat(asks("0e"), 41))
	waits := slices.Concat(goodWaits(), badWaits())
	wanted := slices.Concat(goodAsks(), badAsks()[:8], []impl.Ask{{Who: math.MinInt, Item: math.MaxInt}})
	for i, l := range memoryLocks() {
		for k, w := range wanted {
			a := asked8{l, w, lists[(i+k)%len(lists)], waits[(i*41+k)%len(waits)]}
			for _, c := range callsOf8() {
				check(c, a)
			}
		}
	}
}

// All that is asked of memory is asked of answers that are told true, and of refusals, of each call that may tell one.
func TestMemoryOfChapter8IsAskedOfAnswers(t *testing.T) {
	good, bad := map[string]int{}, map[string]int{}
	eachOf8(func(c call8, a asked8) {
		if got := c.ask(a); got.ok {
			good[c.name]++
		} else {
			bad[c.name]++
		}
	})
	for _, c := range callsOf8() {
		if good[c.name] < 500 || c.name != "NewLocks" && bad[c.name] < 100 {
			t.Errorf("%s: %d answers, %d refusals", c.name, good[c.name], bad[c.name])
		}
	}
}

// Promise 19: nothing is written into an argument, and what lies behind a length is not read.
func TestListsOfChapter8StayAsTheyWere(t *testing.T) {
	behinds := [][]int{{0}, {3, 1, 2}, {-1, -1, -1, -1}, {5000, math.MinInt}}
	eachOf8(func(c call8, a asked8) {
		want := c.ask(copyAsked8(a))
		for _, behind := range behinds {
			laid := hidingAsked8(a, behind...)
			before := wholeAsked8(laid)
			got := c.ask(laid)
			if !sameAnswer8(got, want) {
				t.Errorf("%s of %v hangs on %v behind it: %v, not %v", c.name, a, behind, got, want)
			}
			if !sameAsked8(wholeAsked8(laid), before) || !sameAsked8(laid, a) {
				t.Fatalf("%s made %v of %v", c.name, wholeAsked8(laid), before)
			}
		}
	})
}

// Promise 19: an answer is new memory; written over, it changes no argument, and it follows none.
func TestAnswersOfChapter8ShareNoneWithArguments(t *testing.T) {
	eachOf8(func(c call8, a asked8) {
		laid := hidingAsked8(a, 1, 2)
		before := wholeAsked8(laid)
		got := c.ask(laid)
		want := copyAnswer8(got)
		second := c.ask(laid)
		spoilAnswer8(got)
		if !sameAsked8(wholeAsked8(laid), before) {
			t.Fatalf("%s shares memory with %v", c.name, a)
		}
		spoilAsked8(laid)
		if !sameAnswer8(second, want) {
			t.Errorf("%s of %v: its second answer became %v, not %v", c.name, a, second, want)
		}
		if third := c.ask(a); !sameAnswer8(third, want) {
			t.Errorf("%s of %v: its third answer is %v, not %v", c.name, a, third, want)
		}
	})
}

// Promise 19: no two lists of one answer share any: each one is written over, behind its length too, and no other one changes.
func TestListsOfOneAnswerOfChapter8ShareNone(t *testing.T) {
	many := 0
	eachOf8(func(c call8, a asked8) {
		got := c.ask(a)
		l := got.game.locks
		for at, list := range slices.Concat(l.Readers, [][]int{l.Writers, l.Over}) {
			want := copyAnswer8(got)
			old := slices.Clone(list[:cap(list)])
			spoilList(list)
			left := append(copyTuples(l.Readers), l.Writers, l.Over)
			for other, kept := range slices.Concat(want.game.locks.Readers, [][]int{want.game.locks.Writers, want.game.locks.Over}) {
				if other != at && !slices.Equal(left[other], kept) {
					t.Fatalf("%s of %v: list %d shares memory with list %d", c.name, a, at, other)
				}
			}
			copy(list[:cap(list)], old)
			many += len(old)
		}
	})
	if many < 10000 {
		t.Errorf("%d numbers were written over", many)
	}
}

// Promise 19: nothing lies behind an answer's lists, and beside a false there is none.
func TestNothingLiesBehindAnswersOfChapter8(t *testing.T) {
	eachOf8(func(c call8, a asked8) {
		got := c.ask(hidingAsked8(a, 1, 2))
		l := got.game.locks
		for _, list := range append(slices.Clone(l.Readers), l.Writers, l.Over, got.list) {
			for _, n := range list[len(list):cap(list)] {
				refusedInt(t, c.name+" behind its answer", n, false)
			}
		}
		for _, readers := range l.Readers[len(l.Readers):cap(l.Readers)] {
			refusedList(t, c.name+" behind its readers", readers, false)
		}
		for _, act := range got.game.acts[len(got.game.acts):cap(got.game.acts)] {
			if act != (impl.Act{}) {
				t.Errorf("%s hands out %v behind its acts", c.name, act)
			}
		}
		if slices.Contains(got.game.granted[len(got.game.granted):cap(got.game.granted)], true) {
			t.Errorf("%s hands out a true behind what was granted", c.name)
		}
		if !got.ok && cap(l.Readers)+cap(l.Writers)+cap(l.Over)+cap(got.list)+cap(got.game.acts)+cap(got.game.granted) != 0 {
			t.Errorf("%s of %v tells %v beside a false", c.name, a, got)
		}
	})
}

// Lists of locks that share memory among themselves are read as any others, and what comes of them shares none.
func TestLocksWhoseListsShareMemory(t *testing.T) {
	line := []int{0, 1, 2, 3}
	none := repeated(-1, 4)
	l := impl.Locks{Readers: [][]int{line[:2], line[1:3], line[:1], line[:0]}, Writers: none, Over: line[3:]}
	wantLocks(t, "locks of one line", l, impl.GoodLocks(l), locks("0r0 1r0 1r1 2r1 0r2", 3))
	for _, c := range []struct {
		a      string
		result impl.Locks
	}{
		{"2r0", locks("0r0 1r0 2r0 1r1 2r1 0r2", 3)}, {"0r1", locks("0r0 1r0 0r1 1r1 2r1 0r2", 3)}, {"2w3", locks("0r0 1r0 1r1 2r1 0r2 2w3", 3)}, {"0w2", locks("0r0 1r0 1r1 2r1 0r2 0w2", 3)},
		{"0e", locks("1r0 1r1 2r1", 3, 0)}, {"1e", locks("0r0 2r1 0r2", 3, 1)}, {"2e", locks("0r0 1r0 1r1 0r2", 3, 2)},
	} {
		got, ok := impl.AskLock(l, ask(c.a))
		wantLocks(t, "AskLock of one line, "+c.a, got, ok, c.result)
	}
	wantList(t, "the line", line, true, upTo(4))
	wantList(t, "the writers", none, true, repeated(-1, 4))
}

// Two answers of NewLocks are no one memory.
func TestNewLocksIsNewEachTime(t *testing.T) {
	spoilLocks(impl.NewLocks())
	wantLocks(t, "NewLocks", impl.NewLocks(), true, locks(""))
}

// Numbers behind a length are none: they neither spoil locks, asks and waits nor are part of them.
func TestWhatIsBehindTheLengthOfLocksDoesNotCount(t *testing.T) {
	l := impl.Locks{Readers: append(make([][]int, 4), []int{9})[:4], Writers: append(repeated(-1, 4), 9)[:4], Over: []int{2, 2}[:1]}
	l.Readers[0] = []int{0, 0}[:1]
	if !impl.GoodLocks(l) || impl.GoodLocks(impl.Locks{Readers: l.Readers[:3], Writers: l.Writers}) || impl.GoodLocks(impl.Locks{Readers: l.Readers, Writers: l.Writers[:3]}) {
		t.Errorf("GoodLocks of parts of %v", wholeLocks(l))
	}
	got, ok := impl.AskLock(l, ask("1e"))
	wantLocks(t, "AskLock", got, ok, locks("0r0", 2, 1))
	wantGame(t, "2 of 4", asks("0w0 1r1 2r2 0e")[:2], game{locks("0w0 1r1"), play("0w0 1r1"), told("yy")})
	wantGame(t, "40 of 41", slices.Repeat(asks("0e"), 41)[:40], game{locks("", 0), nil, slices.Concat(told("y"), make([]bool, 39))})
	wantGame(t, "16 acts of 17", slices.Repeat(asks("0r0"), 17)[:16], game{locks("0r0"), each(16, "0r0"), slices.Repeat([]bool{true}, 16)})
	round, ok := impl.HasRound([]int{1, 0, -1, -1, 9}[:4])
	wantList(t, "HasRound of 4 of 5", round, ok, []int{0, 1})
	round, ok = impl.HasRound([]int{1, 0, -1, -1}[:3])
	refusedList(t, "HasRound of 3 of 4", round, ok)
}
