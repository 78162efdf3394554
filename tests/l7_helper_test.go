package tests

import (
	"fmt"
	"slices"
	"strings"
	"testing"

	"loop.example/g00641/impl"
)

// play reads acts of three signs each: "1w0" is that 1 writes item 0, "0r2" that 0 reads item 2.
func play(text string) []impl.Act {
	l := []impl.Act{}
	for _, word := range strings.Fields(text) {
		l = append(l, impl.Act{Who: int(word[0] - '0'), Item: int(word[2] - '0'), Write: word[1] == 'w'})
	}
	return l
}

// each tells the same act so many times.
func each(many int, text string) []impl.Act {
	return slices.Repeat(play(text), many)
}

func wantPlay(t *testing.T, what string, got []impl.Act, ok bool, want []impl.Act) {
	t.Helper()
	if !slices.Equal(got, want) || !ok {
		t.Errorf("%s: got %v, %v; want %v, true", what, got, ok, want)
	}
}

func refusedPlay(t *testing.T, what string, got []impl.Act, ok bool) {
	t.Helper()
	if len(got) != 0 || ok {
		t.Errorf("%s: got %v, %v; want none, false", what, got, ok)
	}
}

// dealerOrders are all orders of the dealers, by their numbers.
func dealerOrders() [][]int {
	all := [][]int{}
	for code := range 256 {
		order := []int{code >> 6 & 3, code >> 4 & 3, code >> 2 & 3, code & 3}
		if len(onceEachOf(slices.Clone(order))) == 4 {
			all = append(all, order)
		}
	}
	return all
}

// badOrders are none of all dealers, each once.
func badOrders() [][]int {
	all := [][]int{
		nil, {}, {0}, {3}, {0, 1}, {0, 1, 2}, {1, 2, 3}, {3, 2, 1}, upTo(5), {0, 1, 2, 3, 0}, {3, 0, 1, 2, 3}, {4, 3, 2, 1, 0}, upTo(64), repeated(0, 1000),
		{0, 1, 2, 2}, {0, 0, 1, 2}, {3, 1, 3, 0}, {0, 0, 0, 0}, {3, 3, 3, 3}, {0, 0, 3, 3}, {1, 2, 3, 4}, {4, 0, 1, 2}, {-1, 0, 1, 2}, {0, 1, 2, -1}, {0, 1, 2, 4}, {0, 1, 2, 7},
	}
	for _, n := range slices.Concat([]int{-4, -1, 4, 5, 256}, extremes) {
		for at := range 4 {
			bad := upTo(4)
			bad[at] = n
			all = append(all, bad, []int{n}, repeated(n, 4), append(upTo(4), n), slices.Insert(upTo(4), at, n))
		}
	}
	return all
}

// The tests say what clashes, what comes of a play and in which orders it may
// stand by reckonings of their own: orders by looking at all of them, effects
// by writing down who read what.

func wantedClash(a impl.Act, b impl.Act) bool {
	switch {
	case a.Who == b.Who, a.Item != b.Item:
		return false
	case a.Write:
		return true
	}
	return b.Write
}

func wantedConflicts(l []impl.Act) []int {
	all := []int{}
	for pair := range 16 {
		many := 0
		for k := range l {
			for i := range k {
				if l[i].Who == pair/4 && l[k].Who == pair%4 && wantedClash(l[i], l[k]) {
					many++
				}
			}
		}
		all = append(all, many)
	}
	return all
}

// keepsTo tells whether no clash of l stands the other way than order has it.
func keepsTo(l []impl.Act, order []int) bool {
	for k := range l {
		for i := range k {
			if wantedClash(l[i], l[k]) && slices.Index(order, l[i].Who) > slices.Index(order, l[k].Who) {
				return false
			}
		}
	}
	return true
}

// wantedSerial is the least by numbers of all orders that l keeps to: it has at each place the first dealer that may stand there.
func wantedSerial(l []impl.Act) ([]int, bool) {
	for _, order := range dealerOrders() {
		if keepsTo(l, order) {
			return order, true
		}
	}
	return nil, false
}

func wantedOneByOne(l []impl.Act, order []int) []impl.Act {
	sorted := slices.Clone(l)
	slices.SortStableFunc(sorted, func(a impl.Act, b impl.Act) int {
		return slices.Index(order, a.Who) - slices.Index(order, b.Who)
	})
	return sorted
}

// A run keeps for each item the number and the mark of its last Write, and for each dealer what it did.
type run struct {
	from  []int
	last  [4]int
	marks [4]string
	diary [4]string
}

// runOf does a play act by act: each Write leaves its mark, and each read writes down whose it found.
func runOf(l []impl.Act) run {
	done := run{last: [4]int{-1, -1, -1, -1}}
	written := map[string]int{}
	for i, a := range l {
		if a.Write {
			name := fmt.Sprint(a.Who, " on ", a.Item)
			written[name]++
			done.last[a.Item], done.marks[a.Item] = i, fmt.Sprint(name, ", ", written[name])
			done.from = append(done.from, -2)
			done.diary[a.Who] += fmt.Sprint("wrote ", a.Item, "; ")
		} else {
			done.from = append(done.from, done.last[a.Item])
			done.diary[a.Who] += fmt.Sprint("read ", a.Item, " of ", done.marks[a.Item], "; ")
		}
	}
	return done
}

func wantedSame(a []impl.Act, b []impl.Act) bool {
	x, y := runOf(a), runOf(b)
	return x.diary == y.diary && x.marks == y.marks
}

// actsOf are all acts of so many dealers on so many items, the last ones among them.
func actsOf(dealers int, items int) []impl.Act {
	all := []impl.Act{}
	for who := range dealers {
		for item := range items {
			all = append(all, impl.Act{Who: 3 - who, Item: 3 - item}, impl.Act{Who: 3 - who, Item: 3 - item, Write: true})
		}
	}
	return all
}

// playsOf are all plays of so many of the acts.
func playsOf(many int, acts []impl.Act) [][]impl.Act {
	all := [][]impl.Act{{}}
	for range many {
		longer := [][]impl.Act{}
		for _, l := range all {
			for _, a := range acts {
				longer = append(longer, append(slices.Clone(l), a))
			}
		}
		all = longer
	}
	return all
}

// smallPlays are all of up to two acts, of three of all dealers on one item, of three of three on two, of four of two on two.
func smallPlays() [][]impl.Act {
	return slices.Concat(playsOf(0, nil), playsOf(1, actsOf(4, 4)), playsOf(2, actsOf(4, 4)), playsOf(3, actsOf(4, 1)), playsOf(3, actsOf(3, 2)), playsOf(4, actsOf(2, 2)))
}

// madePlays are so many of up to 16 acts, by a fixed rule that spreads them: of many Writes and of few.
func madePlays(many int) [][]impl.Act {
	next := spreading(23)
	all := [][]impl.Act{}
	for i := range many {
		l := []impl.Act{}
		for range next(17) {
			l = append(l, impl.Act{Who: next(4), Item: next(1 + i%4), Write: next(2+i%5) == 0})
		}
		all = append(all, l)
	}
	return all
}

// mixedPlays are so many of 16 acts, made of one by one by changing neighbours that do not clash: for each there is an order.
func mixedPlays(many int) [][]impl.Act {
	next := spreading(29)
	all := [][]impl.Act{}
	for i := range many {
		l := []impl.Act{}
		for range 16 {
			l = append(l, impl.Act{Who: next(4), Item: next(4), Write: next(2) == 0})
		}
		l = wantedOneByOne(l, dealerOrders()[i%24])
		for range 400 {
			k := next(15)
			if !wantedClash(l[k], l[k+1]) && l[k].Who != l[k+1].Who {
				l[k], l[k+1] = l[k+1], l[k]
			}
		}
		all = append(all, l)
	}
	return all
}

// edgePlays stand at the limits that the document names.
func edgePlays() [][]impl.Act {
	return [][]impl.Act{
		nil, {}, play("0r0"), play("3r3"), play("0w0"), play("3w3"), play("0r3 3w0"), each(16, "0r0"), each(16, "3w3"), each(4, "0w0 1w0 2w0 3w0"), each(2, "0r0 1w0 2r0 3w0 0w3 1r3 2w3 3r3"),
		slices.Concat(each(8, "0w0"), each(8, "3w0")), slices.Concat(each(8, "3w3"), each(8, "0r3")), each(4, "0r0 1r1 2r2 3r3"), each(4, "0w0 1w1 2w2 3w3"), each(15, "2w1"),
	}
}

func goodPlays() [][]impl.Act {
	return slices.Concat(edgePlays(), smallPlays(), madePlays(400), mixedPlays(100))
}

// badActs are none of a play: one field or both beyond the document's bounds.
func badActs() []impl.Act {
	all := []impl.Act{}
	for _, n := range slices.Concat([]int{-4, -2, -1, 4, 5, 16, 64}, extremes) {
		for _, write := range []bool{false, true} {
			all = append(all, impl.Act{Who: n, Write: write}, impl.Act{Item: n, Write: write}, impl.Act{Who: n, Item: 3, Write: write}, impl.Act{Who: 3, Item: n, Write: write}, impl.Act{Who: n, Item: n, Write: write})
		}
	}
	return all
}

// badPlays have one act beyond the limit, or a bad one at either end or between.
func badPlays() [][]impl.Act {
	all := [][]impl.Act{each(17, "0r0"), each(17, "3w3"), each(5, "0w0 1w0 2w0 3w0"), each(1000, "1r1"), append(each(16, "0r0"), play("1w1")...)}
	for _, bad := range badActs() {
		all = append(all, []impl.Act{bad}, append(play("0r0"), bad), append([]impl.Act{bad}, play("1w0 2r3")...), slices.Insert(play("0r0 1w1"), 1, bad), slices.Insert(each(15, "2w1"), 7, bad), append(each(15, "3r3"), bad))
	}
	return all
}
