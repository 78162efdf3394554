package tests

import (
	"math"
	"slices"
	"testing"

	"loop.example/g00641/impl"
)

// An answer of chapter 7, whichever function told it.
type answer7 struct {
	acts []impl.Act
	list []int
	told bool
	ok   bool
}

// What the functions of chapter 7 are asked of.
type asked7 struct {
	a, b  []impl.Act
	order []int
}

type call7 struct {
	name string
	ask  func(a asked7) answer7
}

func listOf7(l []int, ok bool) answer7 { return answer7{list: l, ok: ok} }

func playOf7(l []impl.Act, ok bool) answer7 { return answer7{acts: l, ok: ok} }

// callsOf7 are all functions of chapter 7.
func callsOf7() []call7 {
	all := []call7{
		{"GoodPlay", func(a asked7) answer7 { return answer7{ok: impl.GoodPlay(a.a)} }},
		{"ConflictsOf", func(a asked7) answer7 { return listOf7(impl.ConflictsOf(a.a)) }},
		{"SerialOf", func(a asked7) answer7 { return listOf7(impl.SerialOf(a.a)) }},
		{"OneByOne", func(a asked7) answer7 { return playOf7(impl.OneByOne(a.a, a.order)) }},
		{"ReadsFrom", func(a asked7) answer7 { return listOf7(impl.ReadsFrom(a.a)) }},
		{"LastWrites", func(a asked7) answer7 { return listOf7(impl.LastWrites(a.a)) }},
		{"SwapAt 0", func(a asked7) answer7 { return playOf7(impl.SwapAt(a.a, 0)) }},
		{"SwapAt the last ones", func(a asked7) answer7 { return playOf7(impl.SwapAt(a.a, len(a.a)-2)) }},
		{"SwapAt the last one", func(a asked7) answer7 { return playOf7(impl.SwapAt(a.a, len(a.a)-1)) }},
		{"SwapAt the end", func(a asked7) answer7 { return playOf7(impl.SwapAt(a.a, len(a.a))) }},
		{"SameEffect", func(a asked7) answer7 {
			told, ok := impl.SameEffect(a.a, a.b)
			return answer7{told: told, ok: ok}
		}},
	}
	return all
}

func sameAnswer7(a answer7, b answer7) bool {
	return slices.Equal(a.acts, b.acts) && slices.Equal(a.list, b.list) && a.told == b.told && a.ok == b.ok
}

func copyAnswer7(a answer7) answer7 {
	return answer7{slices.Clone(a.acts), slices.Clone(a.list), a.told, a.ok}
}

func sameAsked7(a asked7, b asked7) bool {
	return slices.Equal(a.a, b.a) && slices.Equal(a.b, b.b) && slices.Equal(a.order, b.order)
}

func copyAsked7(a asked7) asked7 {
	return asked7{slices.Clone(a.a), slices.Clone(a.b), slices.Clone(a.order)}
}

// hidingAsked7 lays all lists into memory that goes on behind them.
func hidingAsked7(a asked7, behind ...impl.Act) asked7 {
	laid := asked7{a: slices.Concat(a.a, behind)[:len(a.a)], b: slices.Concat(a.b, behind)[:len(a.b)]}
	laid.order, _ = hiding(a.order, behind[0].Who, behind[0].Item)
	return laid
}

// wholeAsked7 copies all that lies in the memory of a, behind its lengths too.
func wholeAsked7(a asked7) asked7 {
	return copyAsked7(asked7{a.a[:cap(a.a)], a.b[:cap(a.b)], a.order[:cap(a.order)]})
}

func spoilPlay(l []impl.Act) {
	l = l[:cap(l)]
	for i := range l {
		l[i] = impl.Act{Who: -404, Item: -404, Write: !l[i].Write}
	}
}

func spoilAnswer7(a answer7) {
	spoilPlay(a.acts)
	spoilList(a.list)
}

func spoilAsked7(a asked7) {
	spoilPlay(a.a)
	spoilPlay(a.b)
	spoilList(a.order)
}

// memoryPlays are good ones, with an order and without, and some that are not good.
func memoryPlays() [][]impl.Act {
	return slices.Concat(edgePlays(), madePlays(30), mixedPlays(10), [][]impl.Act{
		play("0r0 1r0"), play("0w0 1w1"), play("1w0 0r0 2r3"), play("0w0 1w0 0w0"), play("2r0 3r0 0w1 1w2 3r3"), each(17, "0r0"), each(30, "3w3"), append(play("0r0 1r0"), badActs()[0]), badActs()[:1], play("0r0 1r4 2r0"),
	})
}

// eachOf7 asks check of each call of chapter 7 at plays and orders, good ones and others.
func eachOf7(check func(c call7, a asked7)) {
	plays := memoryPlays()
	orders := slices.Concat(dealerOrders(), [][]int{nil, {0, 1, 2}, {0, 1, 2, 2}, {0, 1, 2, 4}, upTo(5), {math.MinInt, 1, 2, 3}})
	for i, l := range plays {
		for k, order := range orders {
			a := asked7{l, plays[(i+k)%len(plays)], order}
			for _, c := range callsOf7() {
				check(c, a)
			}
		}
	}
}

// All that is asked of memory is asked of answers that are told true, of each call that may tell one.
func TestMemoryOfChapter7IsAskedOfAnswers(t *testing.T) {
	good := map[string]int{}
	eachOf7(func(c call7, a asked7) {
		if got := c.ask(a); got.ok {
			good[c.name]++
		}
	})
	for _, c := range callsOf7() {
		if mayBe := c.name != "SwapAt the last one" && c.name != "SwapAt the end"; mayBe != (good[c.name] > 100) {
			t.Errorf("%s: %d answers", c.name, good[c.name])
		}
	}
}

// Promise 19: nothing is written into an argument, and what lies behind a length is not read.
func TestListsOfChapter7StayAsTheyWere(t *testing.T) {
	behinds := [][]impl.Act{play("0r0"), play("3w3 1w0 2r0"), play("0w0 0w1 0w2 0w3"), {{Who: 5000, Item: 5000}}, {{Who: -1, Item: -1, Write: true}}}
	eachOf7(func(c call7, a asked7) {
		want := c.ask(copyAsked7(a))
		for _, behind := range behinds {
			laid := hidingAsked7(a, behind...)
			before := wholeAsked7(laid)
			got := c.ask(laid)
			if !sameAnswer7(got, want) {
				t.Errorf("%s of %v hangs on %v behind it: %v, not %v", c.name, a, behind, got, want)
			}
			if !sameAsked7(wholeAsked7(laid), before) || !sameAsked7(laid, a) {
				t.Fatalf("%s made %v of %v", c.name, wholeAsked7(laid), before)
			}
		}
	})
}

// Promise 19: an answer is new memory; written over, it changes no argument, and it follows none.
func TestAnswersOfChapter7ShareNoneWithArguments(t *testing.T) {
	eachOf7(func(c call7, a asked7) {
		laid := hidingAsked7(a, play("1w1 2r2")...)
		before := wholeAsked7(laid)
		got := c.ask(laid)
		want := copyAnswer7(got)
		second := c.ask(laid)
		spoilAnswer7(got)
		if !sameAsked7(wholeAsked7(laid), before) {
			t.Fatalf("%s shares memory with %v", c.name, a)
		}
		spoilAsked7(laid)
		if !sameAnswer7(second, want) {
			t.Errorf("%s of %v: its second answer became %v, not %v", c.name, a, second, want)
		}
		if third := c.ask(a); !sameAnswer7(third, want) {
			t.Errorf("%s of %v: its third answer is %v, not %v", c.name, a, third, want)
		}
	})
}

// Promise 19: nothing lies behind an answer's lists, and beside a false there is none.
func TestNothingLiesBehindAnswersOfChapter7(t *testing.T) {
	eachOf7(func(c call7, a asked7) {
		got := c.ask(hidingAsked7(a, play("1w1 2w2")...))
		for _, act := range got.acts[len(got.acts):cap(got.acts)] {
			if act != (impl.Act{}) {
				t.Errorf("%s hands out %v behind its acts", c.name, act)
			}
		}
		for _, n := range got.list[len(got.list):cap(got.list)] {
			refusedInt(t, c.name+" behind its answer", n, false)
		}
		if !got.ok && (cap(got.acts) != 0 || cap(got.list) != 0 || got.told) {
			t.Errorf("%s of %v tells %v beside a false", c.name, a, got)
		}
	})
}

// Both plays of SameEffect may be one list, or parts of one.
func TestPlaysThatShareMemory(t *testing.T) {
	line := play("0w0 1r0 0w0 1r0 0w0 1r0 2w1")
	before := slices.Clone(line)
	for from := range line {
		for to := from; to <= len(line); to++ {
			for _, other := range [][]impl.Act{line[from:to], line[:to-from], line[len(line)-to+from:]} {
				got, ok := impl.SameEffect(line[from:to], other)
				wantTold(t, "SameEffect of plays that share memory", got, ok, wantedSame(slices.Clone(line[from:to]), slices.Clone(other)))
			}
		}
	}
	if !slices.Equal(line, before) {
		t.Errorf("what the plays share became %v", line)
	}
}

// Acts behind a length are none: they neither spoil a play nor are part of it, and numbers behind that of an order do not mend it.
func TestActsBehindTheLengthDoNotCount(t *testing.T) {
	whole := append(each(16, "0w0"), badActs()[0])
	if !impl.GoodPlay(whole[:16]) || impl.GoodPlay(whole) {
		t.Errorf("GoodPlay of 16 of 17 acts")
	}
	l := play("0r0 1w0 0w0 1w1")
	got, ok := impl.SerialOf(l[:2])
	wantList(t, "SerialOf 2 of 4", got, ok, upTo(4))
	got, ok = impl.ReadsFrom(l[:1])
	wantList(t, "ReadsFrom 1 of 4", got, ok, []int{-1})
	got, ok = impl.LastWrites(l[:2])
	wantList(t, "LastWrites 2 of 4", got, ok, []int{1, -1, -1, -1})
	acts, ok := impl.SwapAt(l[:3], 2)
	refusedPlay(t, "SwapAt of an act behind the length", acts, ok)
	acts, ok = impl.OneByOne(l[:2], []int{1, 0, 2, 3})
	wantPlay(t, "OneByOne of 2 of 4", acts, ok, play("1w0 0r0"))
	acts, ok = impl.OneByOne(l, upTo(4)[:3])
	refusedPlay(t, "OneByOne of an order with the last one behind it", acts, ok)
	acts, ok = impl.OneByOne(l, upTo(6)[:4])
	wantPlay(t, "OneByOne of an order with more behind it", acts, ok, play("0r0 0w0 1w0 1w1"))
}
