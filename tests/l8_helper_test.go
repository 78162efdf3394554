package tests

import (
	"slices"
	"strings"
	"testing"

	"loop.example/g00641/impl"
)

// ask reads three signs as play does, and two as an End: "2e" is that of 2.
func ask(word string) impl.Ask {
	if word[1] == 'e' {
		return impl.Ask{Who: int(word[0] - '0'), End: true}
	}
	a := play(word)[0]
	return impl.Ask{Who: a.Who, Item: a.Item, Write: a.Write}
}

func asks(text string) []impl.Ask {
	l := []impl.Ask{}
	for _, word := range strings.Fields(text) {
		l = append(l, ask(word))
	}
	return l
}

// locks reads what is held in the signs of play, and who is over in their order.
func locks(text string, over ...int) impl.Locks {
	l := impl.Locks{Readers: make([][]int, 4), Writers: repeated(-1, 4), Over: over}
	for _, a := range play(text) {
		if a.Write {
			l.Writers[a.Item] = a.Who
		} else {
			l.Readers[a.Item] = append(l.Readers[a.Item], a.Who)
		}
	}
	return l
}

func sameLocks(a impl.Locks, b impl.Locks) bool {
	return slices.EqualFunc(a.Readers, b.Readers, sameTuple) && slices.Equal(a.Writers, b.Writers) && slices.Equal(a.Over, b.Over)
}

func copyLocks(l impl.Locks) impl.Locks {
	return impl.Locks{Readers: copyTuples(l.Readers), Writers: slices.Clone(l.Writers), Over: slices.Clone(l.Over)}
}

func wantLocks(t *testing.T, what string, got impl.Locks, ok bool, want impl.Locks) {
	t.Helper()
	if !sameLocks(got, want) || !ok {
		t.Errorf("%s: got %v, %v; want %v, true", what, got, ok, want)
	}
}

func refusedLocks(t *testing.T, what string, got impl.Locks, ok bool) {
	t.Helper()
	if !sameLocks(got, impl.Locks{}) || ok {
		t.Errorf("%s: got %v, %v; want none, false", what, got, ok)
	}
}

// told reads which of some were: a y each, else any other sign.
func told(text string) []bool {
	l := []bool{}
	for _, sign := range text {
		l = append(l, sign == 'y')
	}
	return l
}

// A game is what PlayLocks tells beside its true.
type game struct {
	locks   impl.Locks
	acts    []impl.Act
	granted []bool
}

func sameGame(a game, b game) bool {
	return sameLocks(a.locks, b.locks) && slices.Equal(a.acts, b.acts) && slices.Equal(a.granted, b.granted)
}

func gameOf(l []impl.Ask) (game, bool) {
	locks, acts, granted, ok := impl.PlayLocks(l)
	return game{locks, acts, granted}, ok
}

func wantGame(t *testing.T, what string, l []impl.Ask, want game) {
	t.Helper()
	if got, ok := gameOf(l); !sameGame(got, want) || !ok {
		t.Errorf("PlayLocks, %s, of %v: got %v, %v; want %v, true", what, l, got, ok, want)
	}
}

func refusedGame(t *testing.T, what string, l []impl.Ask) {
	t.Helper()
	if got, ok := gameOf(l); !sameGame(got, game{}) || ok {
		t.Errorf("PlayLocks, %s, of %v: got %v, %v; want none, false", what, l, got, ok)
	}
}

// The tests say who holds what by a reckoning of their own: by all that was
// granted so far, in the order in which it was, and no locks at all.

// A diary is what was granted, Ends among it.
type diary []impl.Ask

func (d diary) isOver(who int) bool {
	return slices.Contains(d, impl.Ask{Who: who, End: true})
}

// isAsked tells whether a is as said at this time.
func (d diary) isAsked(a impl.Ask) bool {
	if a.Who < 0 || a.Who > 3 || a.Item < 0 || a.Item > 3 || d.isOver(a.Who) {
		return false
	}
	return !a.End || a == impl.Ask{Who: a.Who, End: true}
}

// keepers are those who did what clashes with a, and are not over.
func (d diary) keepers(a impl.Ask) []int {
	l := []int{}
	for _, b := range d {
		if !b.End && !d.isOver(b.Who) && wantedClash(impl.Act{Who: b.Who, Item: b.Item, Write: b.Write}, impl.Act{Who: a.Who, Item: a.Item, Write: a.Write}) {
			l = append(l, b.Who)
		}
	}
	return onceEachOf(l)
}

func (d diary) grants(a impl.Ask) bool {
	return d.isAsked(a) && (a.End || len(d.keepers(a)) == 0)
}

func (d diary) with(a impl.Ask) diary {
	return append(slices.Clone(d), a)
}

func (d diary) locks() impl.Locks {
	l := locks("")
	for who := range 4 {
		for item := range 4 {
			if slices.Contains(d, impl.Ask{Who: who, Item: item}) && !d.isOver(who) {
				l.Readers[item] = append(l.Readers[item], who)
			}
			if slices.Contains(d, impl.Ask{Who: who, Item: item, Write: true}) && !d.isOver(who) {
				l.Writers[item] = who
			}
		}
	}
	for _, a := range d {
		if a.End {
			l.Over = append(l.Over, a.Who)
		}
	}
	return l
}

func wantedGame(l []impl.Ask) (game, bool) {
	d, g := diary{}, game{}
	for _, a := range l {
		is := d.grants(a)
		g.granted = append(g.granted, is)
		if is {
			d = d.with(a)
		}
		if is && !a.End {
			g.acts = append(g.acts, impl.Act{Who: a.Who, Item: a.Item, Write: a.Write})
		}
	}
	g.locks = d.locks()
	return g, len(l) <= 40 && len(g.acts) <= 16
}

// goodAsks are all that are as said where nobody is over, Ends last.
func goodAsks() []impl.Ask {
	all := []impl.Ask{}
	for who := range 4 {
		for item := range 4 {
			all = append(all, impl.Ask{Who: who, Item: item}, impl.Ask{Who: who, Item: item, Write: true})
		}
	}
	return append(all, asks("0e 1e 2e 3e")...)
}

// badAsks are as said of no locks: one field or two beyond the document's bounds, and Ends with an Item or a Write.
func badAsks() []impl.Ask {
	all := []impl.Ask{}
	for _, a := range badActs() {
		all = append(all, impl.Ask{Who: a.Who, Item: a.Item, Write: a.Write}, impl.Ask{Who: a.Who, Item: a.Item, Write: a.Write, End: true})
	}
	for who := range 4 {
		for item := range 4 {
			all = append(all, impl.Ask{Who: who, Item: item, Write: true, End: true})
			if item > 0 {
				all = append(all, impl.Ask{Who: who, Item: item, End: true})
			}
		}
	}
	return all
}

// overLists are all orders of all dealers, and all that they begin with.
func overLists() [][]int {
	all := [][]int{}
	for _, order := range dealerOrders() {
		for many := range 5 {
			if !slices.ContainsFunc(all, func(l []int) bool { return sameTuple(l, order[:many]) }) {
				all = append(all, order[:many])
			}
		}
	}
	return all
}

// itemHolds are all ways in which the dealers left hold one item.
func itemHolds(item string, over []int) []string {
	left := slices.DeleteFunc(strings.Fields("0 1 2 3"), func(who string) bool { return slices.Contains(over, int(who[0]-'0')) })
	all := []string{}
	for _, some := range somesOf(left) {
		text := ""
		for _, who := range some {
			text += " " + who + "r" + item
		}
		all = append(all, text)
	}
	for _, who := range left {
		all = append(all, " "+who+"w"+item, " "+who+"r"+item+" "+who+"w"+item)
	}
	return all
}

// smallLocks hold one item in all ways beside any that are over, and two in all ways beside none.
func smallLocks() []impl.Locks {
	all := []impl.Locks{}
	for i, over := range overLists() {
		for _, held := range itemHolds("0123"[i%4:i%4+1], over) {
			all = append(all, locks(held, over...))
		}
	}
	for _, first := range itemHolds("0", nil) {
		for _, second := range itemHolds("3", nil) {
			all = append(all, locks(first+second))
		}
	}
	return all
}

// edgeLocks stand at the limits that the document names.
func edgeLocks() []impl.Locks {
	return []impl.Locks{
		locks(""), locks("", 3, 1, 0, 2), locks("3r3"), locks("3w3"), locks("3r3 3w3"), locks("0r0 1r0 2r0 3r0"), locks("0r0 1r0 2r0 3r0 0r1 1r1 2r1 3r1 0r2 1r2 2r2 3r2 0r3 1r3 2r3 3r3"),
		locks("0w0 1w1 2w2 3w3"), locks("3w0 2w1 1w2 0w3 3r0 2r1 1r2 0r3"), locks("2w0 2w1 2w2 2w3", 3, 0, 1), locks("0r0 0w0 0r1 0w2", 2), locks("1r0 3r0 1w1 3w2 1r3 2r3 3r3", 0),
		{Readers: [][]int{nil, {}, nil, {}}, Writers: repeated(-1, 4)},
	}
}

// madeAsks are so many lists of up to 40, by a fixed rule that spreads them: of many Ends and of few, some with asks that are not good.
func madeAsks(many int) [][]impl.Ask {
	next := spreading(31)
	bad := badAsks()
	all := [][]impl.Ask{}
	for i := range many {
		l := []impl.Ask{}
		for range next(41) {
			switch {
			case next(4+i%9) == 0:
				l = append(l, impl.Ask{Who: next(4), End: true})
			case i%3 == 0 && next(5) == 0:
				l = append(l, bad[next(len(bad))])
			default:
				l = append(l, impl.Ask{Who: next(4), Item: next(1 + i%4), Write: next(1+i%5) == 0})
			}
		}
		all = append(all, l)
	}
	return all
}

// madeDiaries are all times of some made asks.
func madeDiaries(many int) []diary {
	all := []diary{}
	for _, l := range madeAsks(many) {
		d := diary{}
		for _, a := range l {
			if d.grants(a) {
				d = d.with(a)
				all = append(all, d)
			}
		}
	}
	return all
}

func goodLocks() []impl.Locks {
	all := slices.Concat(edgeLocks(), smallLocks())
	for _, d := range madeDiaries(60) {
		all = append(all, d.locks())
	}
	return all
}

// badLocks are good ones with one fault each.
func badLocks() []impl.Locks {
	all := []impl.Locks{{}, {Readers: make([][]int, 4)}, {Writers: repeated(-1, 4)}, {Over: upTo(4)}, {Readers: make([][]int, 4), Writers: make([]int, 0, 4)}}
	for _, good := range edgeLocks() {
		for _, many := range []int{0, 1, 3, 5, 64} {
			short := copyLocks(good)
			short.Readers = slices.Concat(short.Readers, make([][]int, 64))[:many]
			narrow := copyLocks(good)
			narrow.Writers = slices.Concat(narrow.Writers, repeated(-1, 64))[:many]
			all = append(all, short, narrow)
		}
		for _, over := range slices.Concat([][]int{{0, 0}, {3, 3}, {2, 1, 2}, {0, 1, 2, 3, 0}, {-1}, {4}, {3, 4}, {-1, 0}, upTo(5), repeated(0, 1000)}, [][]int{extremes, extremes[:1], extremes[5:]}) {
			late := copyLocks(good)
			late.Over = over
			all = append(all, late)
		}
	}
	for item := range 4 {
		for _, readers := range slices.Concat(badReaders(), [][]int{extremes}) {
			l := locks("")
			l.Readers[item] = readers
			all = append(all, l)
		}
		for _, writer := range slices.Concat([]int{-3, -2, 4, 5}, extremes) {
			l := locks("0r0 1r1 2r2 3r3")
			l.Writers[item] = writer
			all = append(all, l)
			l = locks("")
			l.Writers[item] = writer
			all = append(all, l)
		}
	}
	return append(all, clashingLocks()...)
}

// badReaders do not rise, or are none.
func badReaders() [][]int {
	all := [][]int{{0, 0}, {3, 3}, {1, 0}, {3, 2}, {0, 2, 1}, {0, 1, 1, 2}, {0, 1, 2, 2, 3}, {0, 3, 1, 2}, {-1}, {4}, {-1, 0}, {3, 4}, {0, 1, 2, 3, 4}, {-2, -1}, upTo(64), repeated(2, 1000)}
	for _, n := range extremes {
		all = append(all, []int{n}, []int{n, 0}, []int{0, n}, []int{0, n, 3})
	}
	return all
}

// In clashingLocks one writes beside another reader, or one that is over holds something.
func clashingLocks() []impl.Locks {
	all := []impl.Locks{
		locks("0w0 1r0"), locks("3w3 0r3"), locks("3w3 2r3"), locks("0w1 0r1 1r1"), locks("2w1 1r1 2r1"), locks("1w2 0r2 1r2 2r2"), locks("3w0 0r0 1r0 2r0 3r0"), locks("0r0 3w2 1r2", 2),
		locks("0r0", 0), locks("3r3", 3), locks("0w0", 0), locks("3w3", 3), locks("2w1 2r1", 2), locks("1r0 2r0 3r0", 2), locks("0r0 1r1 2r2 3r3", 1, 0, 2, 3), locks("2w3", 0, 1, 2), locks("1r2", 3, 1), locks("0r0 1w3", 2, 1),
	}
	for who := range 4 {
		for item := range 4 {
			for _, a := range []impl.Ask{{Who: who, Item: item}, {Who: who, Item: item, Write: true}} {
				l := diary{a}.locks()
				l.Over = []int{(who + 1) % 4, who}
				all = append(all, l)
			}
		}
	}
	return all
}

// isLedTo tells whether asks from none on lead to l: those who are over end, then what is read is asked for, then what is written.
func isLedTo(l impl.Locks) bool {
	wanted := []impl.Ask{}
	for _, who := range l.Over {
		wanted = append(wanted, impl.Ask{Who: who, End: true})
	}
	for item, readers := range l.Readers {
		for _, who := range readers {
			wanted = append(wanted, impl.Ask{Who: who, Item: item})
		}
	}
	for item, who := range l.Writers {
		if who != -1 {
			wanted = append(wanted, impl.Ask{Who: who, Item: item, Write: true})
		}
	}
	d := diary{}
	for _, a := range wanted {
		if !d.grants(a) {
			return false
		}
		d = d.with(a)
	}
	return sameLocks(d.locks(), l)
}

// wantedRound tells by counting steps: of one in a round as many as there are dealers, or fewer, lead back.
func wantedRound(waits []int) ([]int, bool) {
	for from := range 4 {
		way, at := []int{}, from
		for range 4 {
			way = append(way, at)
			at = waits[at]
			if at == from {
				return way, true
			}
			if at < 0 {
				break
			}
		}
	}
	return nil, false
}

// goodWaits are all that Dealers numbers may tell.
func goodWaits() [][]int {
	all := [][]int{}
	for code := range 625 {
		all = append(all, []int{code%5 - 1, code/5%5 - 1, code/25%5 - 1, code/125 - 1})
	}
	return all
}

// badWaits are too short, too long, or have a number that is no dealer, some of them beside a round.
func badWaits() [][]int {
	all := [][]int{nil, {}, {0}, {-1}, {1, 0}, {-1, -1, -1}, {1, 2, 0}, {0, 1, 2}, {1, 0, -1, -1, -1}, {0, 1, 2, 3, 4}, {1, 2, 3, 4, 0}, repeated(-1, 5), repeated(-1, 64), repeated(0, 1000)}
	for _, n := range slices.Concat([]int{-5, -4, -3, -2, 4, 5, 64}, extremes) {
		for at := range 4 {
			for _, waits := range [][]int{repeated(-1, 4), repeated(0, 4), {1, 0, 3, 2}, {1, 2, 3, 0}, upTo(4)} {
				waits[at] = n
				all = append(all, waits)
			}
		}
		all = append(all, []int{n}, repeated(n, 4), repeated(n, 5), append(repeated(-1, 4), n))
	}
	return all
}
