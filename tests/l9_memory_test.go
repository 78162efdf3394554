package tests

import (
	"math"
	"slices"
	"testing"

	"loop.example/g00641/impl"
)

// An answer of chapter 9, whichever function told it.
type answer9 struct {
	lists [][]int
	list  []int
	told  bool
	ok    bool
}

type call9 struct {
	name string
	ask  func(l [][]int, node int) answer9
}

func listOf9(l []int, ok bool) answer9 { return answer9{list: l, ok: ok} }

func listsOf9(l [][]int, ok bool) answer9 { return answer9{lists: l, ok: ok} }

// callsOf9 are all functions of chapter 9.
func callsOf9() []call9 {
	return []call9{
		{"GoodLinks", func(l [][]int, node int) answer9 { return answer9{ok: impl.GoodLinks(l)} }},
		{"ReachOf", func(l [][]int, node int) answer9 { return listOf9(impl.ReachOf(l, node)) }},
		{"GroupsOf", func(l [][]int, node int) answer9 { return listsOf9(impl.GroupsOf(l)) }},
		{"GroupAt", func(l [][]int, node int) answer9 { return listOf9(impl.GroupAt(l, node)) }},
		{"OrderBy", func(l [][]int, node int) answer9 { return listOf9(impl.OrderBy(l)) }},
		{"Shrink", func(l [][]int, node int) answer9 { return listsOf9(impl.Shrink(l)) }},
		{"IsRoundless", func(l [][]int, node int) answer9 {
			told, ok := impl.IsRoundless(l)
			return answer9{told: told, ok: ok}
		}},
	}
}

func sameAnswer9(a answer9, b answer9) bool {
	return slices.EqualFunc(a.lists, b.lists, sameTuple) && slices.Equal(a.list, b.list) && a.told == b.told && a.ok == b.ok
}

func copyAnswer9(a answer9) answer9 {
	return answer9{copyTuples(a.lists), slices.Clone(a.list), a.told, a.ok}
}

func spoilAnswer9(a answer9) {
	spoilLists(a.lists)
	spoilList(a.list)
}

// hidingLinks lays all rows, and the list that has them, into memory that goes on behind them.
func hidingLinks(l [][]int, behind ...int) [][]int {
	rows := [][]int{}
	for _, row := range l {
		laid, _ := hiding(row, behind...)
		rows = append(rows, laid)
	}
	for range 2 {
		rows = append(rows, slices.Clone(behind))
	}
	return rows[:len(l)]
}

// wholeLinks copies all that lies in the memory of l, behind its lengths too.
func wholeLinks(l [][]int) [][]int {
	all := [][]int{}
	for _, row := range l[:cap(l)] {
		all = append(all, slices.Clone(row[:cap(row)]))
	}
	return all
}

// memoryLinks are good ones, and some that are not.
func memoryLinks() [][][]int {
	all := slices.Concat(edgeLinks(), madeLinks(150), allLinks(2))
	for i, l := range badLinks() {
		if i%29 == 0 || len(l) == 13 {
			all = append(all, l)
		}
	}
	return all
}

// eachOf9 asks check of each call of chapter 9, at good links and nodes and at others.
func eachOf9(check func(c call9, l [][]int, node int)) {
	for _, l := range memoryLinks() {
		for _, node := range []int{0, 1, 2, 5, len(l) - 1, len(l), 11, 12, -1, math.MinInt, math.MaxInt} {
			for _, c := range callsOf9() {
				check(c, l, node)
			}
		}
	}
}

// All that is asked of memory is asked of answers that are told true, and of refusals, of each call.
func TestMemoryOfChapter9IsAskedOfAnswers(t *testing.T) {
	good, bad := map[string]int{}, map[string]int{}
	eachOf9(func(c call9, l [][]int, node int) {
		if got := c.ask(l, node); got.ok {
			good[c.name]++
		} else {
			bad[c.name]++
		}
	})
	for _, c := range callsOf9() {
		if good[c.name] < 500 || bad[c.name] < 200 {
			t.Errorf("%s: %d answers, %d refusals", c.name, good[c.name], bad[c.name])
		}
	}
}

// Promise 19: nothing is written into an argument, and what lies behind a length is not read.
func TestLinksStayAsTheyWere(t *testing.T) {
	behinds := [][]int{{0}, {1, 2, 3}, {11, 11}, {-1, -1, -1, -1}, {5000, math.MinInt}}
	eachOf9(func(c call9, l [][]int, node int) {
		want := c.ask(copyTuples(l), node)
		for _, behind := range behinds {
			laid := hidingLinks(l, behind...)
			before := wholeLinks(laid)
			got := c.ask(laid, node)
			if !sameAnswer9(got, want) {
				t.Errorf("%s of %v, %d hangs on %v behind it: %v, not %v", c.name, l, node, behind, got, want)
			}
			if !slices.EqualFunc(wholeLinks(laid), before, sameTuple) || !slices.EqualFunc(laid, l, sameTuple) {
				t.Fatalf("%s made %v of %v", c.name, wholeLinks(laid), before)
			}
		}
	})
}

// Promise 19: an answer is new memory; written over, it changes no argument, and it follows none.
func TestAnswersOfChapter9ShareNoneWithArguments(t *testing.T) {
	eachOf9(func(c call9, l [][]int, node int) {
		laid := hidingLinks(l, 1, 2)
		before := wholeLinks(laid)
		got := c.ask(laid, node)
		want := copyAnswer9(got)
		second := c.ask(laid, node)
		spoilAnswer9(got)
		if !slices.EqualFunc(wholeLinks(laid), before, sameTuple) {
			t.Fatalf("%s shares memory with %v", c.name, l)
		}
		spoilLists(laid)
		if !sameAnswer9(second, want) {
			t.Errorf("%s of %v, %d: its second answer became %v, not %v", c.name, l, node, second, want)
		}
		if third := c.ask(l, node); !sameAnswer9(third, want) {
			t.Errorf("%s of %v, %d: its third answer is %v, not %v", c.name, l, node, third, want)
		}
	})
}

// Promise 19: no two lists of one answer share any: each is written over with a number of its own, behind its length too, and shows no other's.
func TestListsOfOneAnswerOfChapter9ShareNone(t *testing.T) {
	many := 0
	eachOf9(func(c call9, l [][]int, node int) {
		got := c.ask(l, node)
		lists := append(slices.Clone(got.lists), got.list)
		for i, list := range lists {
			list = list[:cap(list)]
			for k := range list {
				list[k] = 5000 + i
			}
			many += len(list)
		}
		for i, list := range lists {
			for _, n := range list[:cap(list)] {
				if n != 5000+i {
					t.Fatalf("%s of %v: lists %d and %d share memory", c.name, l, i, n-5000)
				}
			}
		}
	})
	if many < 10000 {
		t.Errorf("%d numbers were written over", many)
	}
}

// Promise 19: nothing lies behind an answer's lists, and beside a false there is none.
func TestNothingLiesBehindAnswersOfChapter9(t *testing.T) {
	eachOf9(func(c call9, l [][]int, node int) {
		got := c.ask(hidingLinks(l, 1, 2), node)
		for _, list := range append(slices.Clone(got.lists), got.list) {
			for _, n := range list[len(list):cap(list)] {
				refusedInt(t, c.name+" behind its answer", n, false)
			}
		}
		for _, list := range got.lists[len(got.lists):cap(got.lists)] {
			if cap(list) != 0 {
				t.Errorf("%s hands out %v behind its lists", c.name, list)
			}
		}
		if !got.ok && (cap(got.lists)+cap(got.list) != 0 || got.told) {
			t.Errorf("%s of %v, %d tells %v beside a false", c.name, l, node, got)
		}
	})
}

// Rows may share memory among themselves, or be one list: an answer's lists do not.
func TestLinksWhoseRowsShareMemory(t *testing.T) {
	line := upTo(6)
	l := [][]int{line[1:2], line[0:2], line[0:2], line[2:4], line[2:6], line[5:6]}
	for _, c := range callsOf9() {
		for node := range l {
			got, want := c.ask(l, node), c.ask(copyTuples(l), node)
			if !sameAnswer9(got, want) || !got.ok {
				t.Errorf("%s of rows that share memory: %v, not %v", c.name, got, want)
			}
			spoilAnswer9(got)
		}
	}
	groups, ok := impl.GroupsOf(l)
	wantListsOf(t, "GroupsOf of rows that share memory", groups, ok, links("01 2 3 5 4"))
	shrunk, ok := impl.Shrink(l)
	wantListsOf(t, "Shrink of rows that share memory", shrunk, ok, links("- 0 1 - 123"))
	wantList(t, "the line", line, true, upTo(6))
}

// What is behind a length is none: it neither spoils links nor is part of them.
func TestWhatIsBehindTheLengthOfLinksDoesNotCount(t *testing.T) {
	l := append(make([][]int, 12), []int{0})
	if !impl.GoodLinks(l[:12]) || impl.GoodLinks(l) {
		t.Errorf("GoodLinks of 12 of 13 rows")
	}
	l = links("1 2 0")
	if !impl.GoodLinks(l) || impl.GoodLinks(l[:2]) {
		t.Errorf("GoodLinks of a row whose node is behind the length")
	}
	got, ok := impl.ReachOf(l[:2], 0)
	refusedList(t, "ReachOf 2 of 3", got, ok)
	l = links("1 0 01")
	got, ok = impl.ReachOf(l[:2], 2)
	refusedList(t, "ReachOf of a node behind the length", got, ok)
	got, ok = impl.GroupAt(l[:2], 2)
	refusedList(t, "GroupAt of a node behind the length", got, ok)
	groups, ok := impl.GroupsOf(l[:2])
	wantListsOf(t, "GroupsOf 2 of 3", groups, ok, links("01"))
	cut := [][]int{[]int{1, 0}[:1], []int{0}[:0]}
	groups, ok = impl.GroupsOf(cut)
	wantListsOf(t, "GroupsOf of rows with more behind them", groups, ok, links("1 0"))
	shrunk, ok := impl.Shrink(cut)
	wantListsOf(t, "Shrink of rows with more behind them", shrunk, ok, links("- 0"))
	told, ok := impl.IsRoundless(cut)
	wantTold(t, "IsRoundless of rows with more behind them", told, ok, true)
}
