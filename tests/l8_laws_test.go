package tests

import (
	"fmt"
	"slices"
	"testing"

	"loop.example/g00641/impl"
)

func heldBy(t *testing.T, l impl.Locks, who int) []int {
	t.Helper()
	held, ok := impl.HeldBy(l, who)
	if !ok {
		t.Fatalf("HeldBy of %v refuses %d", l, who)
	}
	return held
}

// lawAsks are asks for which PlayLocks tells true: short ones of all kinds, and made ones up to the limits.
func lawAsks() [][]impl.Ask {
	next := spreading(37)
	all := [][]impl.Ask{nil, asks("0w0 1r0 0e 1r0"), asks("0r0 1r0 0w0 1w0 0e 1w0"), asks("0w0 1w1 0w1 1w0")}
	for i := range 3000 {
		l := []impl.Ask{}
		for range 8 + next(33) {
			a := impl.Ask{Who: next(4), Item: next(2 + i%3), Write: next(2+i%2) == 0}
			if next(6) == 0 {
				a = impl.Ask{Who: a.Who, End: true}
			}
			l = append(l, a)
		}
		all = append(all, l)
	}
	return slices.DeleteFunc(all, func(l []impl.Ask) bool {
		_, ok := gameOf(l)
		return !ok
	})
}

// Promise 8: what is granted by locks that are held to the end is as good as one by one.
func TestWhatIsGrantedIsAsGoodAsOneByOne(t *testing.T) {
	most, mixed, clashes := 0, 0, 0
	for _, l := range lawAsks() {
		g, _ := gameOf(l)
		order, ok := serialOf(t, g.acts)
		if !ok {
			t.Errorf("of %v was granted %v, for which there is no order", l, g.acts)
			continue
		}
		one := oneByOne(t, g.acts, order)
		if !sameEffect(t, g.acts, one) || !sameEffect(t, one, g.acts) || !wantedSame(g.acts, one) {
			t.Errorf("of %v was granted %v, which is not as good as %v", l, g.acts, one)
		}
		if !slices.Equal(g.acts, one) {
			most, mixed = max(most, len(g.acts)), mixed+1
		}
		if slices.Max(conflictsOf(t, g.acts)) > 0 {
			clashes++
		}
	}
	if most < 16 || mixed < 1000 || clashes < 500 {
		t.Errorf("%d plays of at most %d acts were mixed, and in %d some clashed", mixed, most, clashes)
	}
}

// Promise 8: so it is in the order in which they were over, those behind who never were.
func TestTheOrderOfEndsIsAsGood(t *testing.T) {
	for _, l := range lawAsks() {
		g, _ := gameOf(l)
		order := slices.Clone(g.locks.Over)
		for who := range 4 {
			if !slices.Contains(order, who) {
				order = append(order, who)
			}
		}
		if one := oneByOne(t, g.acts, order); !keepsTo(g.acts, order) || !sameEffect(t, g.acts, one) {
			t.Errorf("of %v was granted %v, which is not as good as %v", l, g.acts, one)
		}
	}
}

// Were locks given up ahead of the end, there would not always be an order: the law is not true of all plays.
func TestWithoutLocksThereMayBeNoOrder(t *testing.T) {
	l := asks("0r0 1w0 0r0")
	acts := play("0r0 1w0 0r0")
	order, ok := impl.SerialOf(acts)
	refusedList(t, "SerialOf without locks", order, ok)
	wantGame(t, "by locks", l, game{locks("0r0"), play("0r0 0r0"), told("yny")})
}

// PlayLocks is AskLock again and again, and of what was asked so far it tells the same.
func TestPlayLocksIsAskLockStepByStep(t *testing.T) {
	for _, l := range append(lawAsks()[:300], madeAsks(60)...) {
		g, ok := gameOf(l)
		if !ok {
			continue
		}
		at, many := impl.NewLocks(), 0
		for i, a := range l {
			next, is := impl.AskLock(at, a)
			if is != g.granted[i] {
				t.Fatalf("ask %d of %v: AskLock tells %v, PlayLocks %v", i, l, is, g.granted[i])
			}
			if is {
				at = next
			}
			if is && !a.End {
				many++
			}
			want := game{at, g.acts[:many], g.granted[:i+1]}
			wantGame(t, "so far", l[:i+1], want)
		}
		wantLocks(t, fmt.Sprint("PlayLocks of ", l), g.locks, true, at)
	}
}

// An ask that is as said is granted just where it waits for nobody; who keeps it off holds its item, and is not over.
func TestAnAskIsGrantedWhereItWaitsForNobody(t *testing.T) {
	for _, l := range goodLocks() {
		for _, a := range goodAsks() {
			waits, ok := impl.WaitsFor(l, a)
			if !ok {
				continue
			}
			next, is := impl.AskLock(l, a)
			if is != (len(waits) == 0) || is && !impl.GoodLocks(next) {
				t.Errorf("AskLock of %v, %v: got %v, %v; it waits for %v", l, a, next, is, waits)
			}
			for _, who := range waits {
				if who == a.Who || !slices.Contains(heldBy(t, l, who), a.Item) || slices.Contains(l.Over, who) {
					t.Errorf("WaitsFor of %v, %v: got %v", l, a, waits)
				}
			}
		}
	}
}

// Who was granted holds its item, who is over holds nothing, and what the others hold stays.
func TestWhatIsHeldBehindAnAsk(t *testing.T) {
	for _, l := range goodLocks() {
		for _, a := range goodAsks() {
			next, ok := impl.AskLock(l, a)
			if !ok {
				continue
			}
			for who := range 4 {
				want := heldBy(t, l, who)
				if who == a.Who && a.End {
					want = nil
				} else if who == a.Who {
					want = onceEachOf(append(slices.Clone(want), a.Item))
				}
				wantList(t, fmt.Sprint("HeldBy of ", next, who), heldBy(t, next, who), true, want)
			}
			again, ok := impl.AskLock(next, a)
			if a.End {
				refusedLocks(t, fmt.Sprint("a second End of ", next, a), again, ok)
			} else {
				wantLocks(t, fmt.Sprint("the same again of ", next, a), again, ok, next)
			}
		}
	}
}

// Who waits for those who end is granted in the end, whoever they are.
func TestWhoWaitsIsGrantedBehindTheEnds(t *testing.T) {
	waited := 0
	for _, l := range goodLocks() {
		for _, a := range goodAsks() {
			waits, ok := impl.WaitsFor(l, a)
			if !ok || len(waits) == 0 {
				continue
			}
			waited++
			at := l
			for _, who := range waits {
				if got, ok := impl.AskLock(at, a); ok {
					t.Errorf("AskLock of %v, %v: got %v, though %v is not over", at, a, got, who)
				}
				at, ok = impl.AskLock(at, impl.Ask{Who: who, End: true})
				if !ok {
					t.Fatalf("AskLock of %v refuses the end of %d", l, who)
				}
			}
			if _, ok := impl.AskLock(at, a); !ok {
				t.Errorf("AskLock of %v refuses %v", at, a)
			}
		}
	}
	if waited < 1000 {
		t.Errorf("%d asks waited", waited)
	}
}

// A round is walked by its own numbers, from its least one on, and none that is in a round is less.
func TestRoundsLeadBack(t *testing.T) {
	rounds := 0
	for _, waits := range goodWaits() {
		round, ok := impl.HasRound(waits)
		if !ok {
			continue
		}
		rounds++
		if len(round) == 0 || slices.Min(round) != round[0] {
			t.Fatalf("HasRound of %v: got %v", waits, round)
		}
		for i, who := range round {
			if waits[who] != round[(i+1)%len(round)] || slices.Index(round, who) != i {
				t.Errorf("HasRound of %v: got %v", waits, round)
			}
		}
		for who := range round[0] {
			cut := slices.Clone(waits)
			for _, other := range round {
				cut[other] = -1
			}
			if rest, ok := impl.HasRound(cut); ok && slices.Contains(rest, who) {
				t.Errorf("HasRound of %v: got %v, and not %v", waits, round, rest)
			}
		}
	}
	if rounds < 100 {
		t.Errorf("%d rounds were walked", rounds)
	}
}

// Those who keep each other off are told as a round.
func TestDealersThatWaitForEachOtherAreARound(t *testing.T) {
	l := locks("0w0 1w1 3w2 2r3")
	wanted := asks("0w1 1r2 2w3 3r0")
	waits := []int{}
	for _, a := range wanted {
		who, ok := impl.WaitsFor(l, a)
		if !ok || len(who) > 1 {
			t.Fatalf("WaitsFor of %v, %v: %v, %v", l, a, who, ok)
		}
		waits = append(waits, slices.Concat(who, []int{-1})[0])
	}
	round, ok := impl.HasRound(waits)
	wantList(t, "HasRound", round, ok, []int{0, 1, 3})
	next, ok := impl.AskLock(l, ask("1e"))
	who, known := impl.WaitsFor(next, wanted[0])
	wantList(t, "WaitsFor behind an end", who, ok && known, nil)
}
