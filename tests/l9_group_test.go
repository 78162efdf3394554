package tests

import (
	"fmt"
	"slices"
	"testing"

	"loop.example/g00641/impl"
)

func TestLimitOfChapter9(t *testing.T) {
	wantInt(t, "MaxNodes", impl.MaxNodes, true, 12)
}

func TestGoodLinks(t *testing.T) {
	for _, l := range goodLinks() {
		if !impl.GoodLinks(l) {
			t.Errorf("%v are not good", l)
		}
	}
	for _, l := range badLinks() {
		if impl.GoodLinks(l) {
			t.Errorf("%v are good", l)
		}
	}
}

// Each row of up to three numbers around the nodes is tried at each place.
func TestGoodLinksByRows(t *testing.T) {
	rows := [][]int{nil}
	for from, long := 0, 1; long <= 3; long++ {
		to := len(rows)
		for _, row := range rows[from:to] {
			for n := -1; n <= 4; n++ {
				rows = append(rows, append(slices.Clone(row), n))
			}
		}
		from = to
	}
	for many := 1; many <= 4; many++ {
		for _, row := range rows {
			once := slices.Compact(slices.Sorted(slices.Values(row)))
			want := slices.Equal(once, row) && (len(row) == 0 || row[0] >= 0 && row[len(row)-1] < many)
			for at := range many {
				l := slices.Repeat([][]int{{many - 1}}, many)
				l[at] = row
				if impl.GoodLinks(l) != want {
					t.Errorf("GoodLinks of %v: got %v", l, !want)
				}
			}
		}
	}
}

func TestGoodLinksByHowMany(t *testing.T) {
	for many := range 40 {
		for _, row := range [][]int{nil, {0}, upTo(min(many, 12)), {max(many-1, 0)}} {
			l := slices.Repeat([][]int{row}, many)
			if impl.GoodLinks(l) != (many <= 12) {
				t.Errorf("GoodLinks of %d rows %v: got %v", many, row, many > 12)
			}
		}
	}
}

func TestReachOfAndGroupAt(t *testing.T) {
	eachNode(t, func(what string, l [][]int, node int) {
		got, ok := impl.ReachOf(l, node)
		wantList(t, "ReachOf"+what, got, ok, wantedReach(l, node))
		got, ok = impl.GroupAt(l, node)
		wantList(t, "GroupAt"+what, got, ok, wantedGroup(l, node))
	})
}

func TestReachOfAndGroupAtRefuse(t *testing.T) {
	for _, l := range goodLinks() {
		for _, node := range noNodes(len(l)) {
			got, ok := impl.ReachOf(l, node)
			refusedList(t, fmt.Sprint("ReachOf of ", l, node), got, ok)
			got, ok = impl.GroupAt(l, node)
			refusedList(t, fmt.Sprint("GroupAt of ", l, node), got, ok)
		}
	}
}

func TestReachOfPlainly(t *testing.T) {
	for _, c := range []struct {
		what, links string
		from        int
		want        string
	}{
		{"one node that leads nowhere", "-", 0, "0"}, {"one that leads to itself", "0", 0, "0"}, {"two apart, from the first", "- -", 0, "0"}, {"two apart, from the last", "- -", 1, "1"},
		{"one that leads to another", "1 -", 0, "01"}, {"one that is led to", "1 -", 1, "1"}, {"one that leads back", "- 0", 1, "01"}, {"a round of two", "1 0", 1, "01"},
		{"from the front of a way", "1 2 3 -", 0, "0123"}, {"from the middle of a way", "1 2 3 -", 2, "23"}, {"from its end", "1 2 3 -", 3, "3"}, {"a way back", "- 0 1 2", 3, "0123"}, {"a way to and fro", "3 2 - 1", 0, "0123"},
		{"two ways to one", "12 3 3 -", 0, "0123"}, {"one of two ways", "12 3 3 -", 2, "23"}, {"into a round", "1 2 1 -", 0, "012"}, {"out of a round", "1 02 - 0", 1, "012"}, {"beside a round", "1 0 3 -", 2, "23"},
		{"a long way", "1 2 3 4 5 6 7 8 9 a b -", 0, "0123456789ab"}, {"its last node", "1 2 3 4 5 6 7 8 9 a b -", 11, "b"}, {"a long round, from its end", "1 2 3 4 5 6 7 8 9 a b 0", 11, "0123456789ab"}, {"a long way that comes back to its middle", "1 2 3 4 5 6 7 8 9 a b 6", 9, "6789ab"},
	} {
		got, ok := impl.ReachOf(links(c.links), c.from)
		wantList(t, "ReachOf: "+c.what, got, ok, nodesOf(c.want))
	}
}

func TestGroupAtPlainly(t *testing.T) {
	for _, c := range []struct {
		what, links string
		node        int
		want        string
	}{
		{"one node that leads nowhere", "-", 0, "0"}, {"one that leads to itself", "0", 0, "0"}, {"one that leads to another", "1 -", 0, "0"}, {"one that is led to", "1 -", 1, "1"}, {"a round of two", "1 0", 0, "01"}, {"the other of both", "1 0", 1, "01"},
		{"ahead of a round", "1 2 1 -", 0, "0"}, {"in a round that is led to", "1 2 1 -", 2, "12"}, {"in a round that leads on", "1 02 - 0", 0, "01"}, {"behind a round", "1 02 - 0", 2, "2"}, {"beside a round", "1 0 3 -", 3, "3"},
		{"two rounds with one in common", "1 02 1", 0, "012"}, {"one of two rounds", "2 3 0 1", 3, "13"}, {"one of two rounds of which one leads to the other", "12 0 3 2", 0, "01"}, {"the other one of both", "12 0 3 2", 3, "23"},
		{"all in one round", "1 2 3 4 5 6 7 8 9 a b 0", 7, "0123456789ab"}, {"a long way without a round", "1 2 3 4 5 6 7 8 9 a b -", 7, "7"}, {"ahead of where a long way comes back to", "1 2 3 4 5 6 7 8 9 a b 6", 5, "5"}, {"where it comes back to", "1 2 3 4 5 6 7 8 9 a b 6", 6, "6789ab"},
	} {
		got, ok := impl.GroupAt(links(c.links), c.node)
		wantList(t, "GroupAt: "+c.what, got, ok, nodesOf(c.want))
	}
}

func TestGroupsOfAndOrderBy(t *testing.T) {
	for _, l := range goodLinks() {
		want := wantedNodeGroups(l)
		got, ok := impl.GroupsOf(l)
		wantListsOf(t, fmt.Sprint("GroupsOf of ", l), got, ok, want)
		order, ok := impl.OrderBy(l)
		wantList(t, fmt.Sprint("OrderBy of ", l), order, ok, slices.Concat(want...))
	}
}

// The order is the first one of all that put each group behind what it leads to.
func TestGroupsOfIsTheFirstOfAllOrders(t *testing.T) {
	for _, l := range slices.Concat(smallLinks(), madeLinks(300)) {
		if len(l) > 6 {
			continue
		}
		got, ok := impl.GroupsOf(l)
		wantListsOf(t, fmt.Sprint("GroupsOf of ", l), got, ok, firstOrder(l))
	}
}

func TestGroupsOfAndOrderByPlainly(t *testing.T) {
	for _, c := range []struct {
		what, links, want string
	}{
		{"no node", "", ""}, {"one that leads nowhere", "-", "0"}, {"one that leads to itself", "0", "0"}, {"two apart", "- -", "0 1"}, {"the first leads to the other", "1 -", "1 0"}, {"the last leads to the other", "- 0", "0 1"}, {"both to each other", "1 0", "01"}, {"both to both", "01 01", "01"}, {"both to themselves", "0 1", "0 1"},
		{"three round about", "1 2 0", "012"}, {"three round about the other way", "2 0 1", "012"}, {"a way of three", "1 2 -", "2 1 0"}, {"a way back of three", "- 0 1", "0 1 2"}, {"one leads into a round", "1 0 0", "01 2"}, {"the least one leads into a round", "1 2 1", "12 0"}, {"a round leads on", "1 02 -", "2 01"},
		{"the first to the last", "2 - -", "1 2 0"}, {"the first to the next", "1 - -", "1 0 2"}, {"a way beside one that leads nowhere", "3 - - 1", "1 2 3 0"},
		{"two rounds, the lesser leads to the other", "12 0 3 2", "23 01"}, {"two rounds, the greater leads to the other", "1 0 03 2", "01 23"}, {"two rounds, one in the other", "2 3 0 1", "02 13"}, {"two such, the lesser leads to the other", "23 3 0 1", "13 02"}, {"two such, the greater leads to the other", "2 3 0 01", "02 13"}, {"two rounds apart", "1 0 3 2", "01 23"}, {"two rounds apart, one around the other", "3 2 1 0", "03 12"},
		{"a great least node ahead of a small one", "5 - - - - -", "1 2 3 4 5 0"}, {"a round of great nodes ahead of all", "3 3 3 4 3", "34 0 1 2"}, {"a round that is ready late", "3 - 4 45 3 -", "1 5 34 0 2"}, {"two as ready behind one", "4 4 4 - -", "3 4 0 1 2"}, {"a round of the first and last behind a middle one", "23 - - 0", "1 2 03"},
		{"all in one round", "1 2 3 4 5 6 7 8 9 a b 0", "0123456789ab"}, {"all nowhere", "- - - - - - - - - - - -", "0 1 2 3 4 5 6 7 8 9 a b"}, {"a long way", "1 2 3 4 5 6 7 8 9 a b -", "b a 9 8 7 6 5 4 3 2 1 0"}, {"a long way back", "- 0 1 2 3 4 5 6 7 8 9 a", "0 1 2 3 4 5 6 7 8 9 a b"},
		{"a long way that comes back at its end", "1 2 3 4 5 6 7 8 9 a b 6", "6789ab 5 4 3 2 1 0"}, {"two long rounds", "1 2 3 4 5 0 7 8 9 a b 6", "012345 6789ab"}, {"two long rounds, the lesser leads to the other", "1 2 3 4 5 06 7 8 9 a b 6", "6789ab 012345"}, {"two long rounds, the greater leads to the other", "1 2 3 4 5 0 7 8 9 a b 06", "012345 6789ab"},
		{"pairs, from the outer ones in", "b a 9 8 7 6 5 4 3 2 1 0", "0b 1a 29 38 47 56"}, {"pairs that lead on inwards", "1b 2a 39 48 57 6 5 4 3 2 1 0", "56 47 38 29 1a 0b"}, {"the even and the odd ones", "2 3 4 5 6 7 8 9 a b 0 1", "02468a 13579b"},
	} {
		got, ok := impl.GroupsOf(links(c.links))
		wantListsOf(t, "GroupsOf: "+c.what, got, ok, links(c.want))
		order, ok := impl.OrderBy(links(c.links))
		wantList(t, "OrderBy: "+c.what, order, ok, nodesOf(c.want))
	}
}

func TestShrink(t *testing.T) {
	for _, l := range goodLinks() {
		got, ok := impl.Shrink(l)
		wantListsOf(t, fmt.Sprint("Shrink of ", l), got, ok, wantedShrunk(l))
	}
}

func TestShrinkPlainly(t *testing.T) {
	for _, c := range []struct {
		what, links, want string
	}{
		{"no node", "", ""}, {"one that leads nowhere", "-", "-"}, {"one that leads to itself", "0", "-"}, {"all that lead to themselves", "0 1 2 3", "- - - -"}, {"one that leads to itself and on", "01 -", "- 0"}, {"one that is led to and leads to itself", "01 1", "- 0"}, {"two apart", "- -", "- -"}, {"a round of two", "1 0", "-"}, {"a round of two that lead to themselves", "01 01", "-"},
		{"the first leads to the other", "1 -", "- 0"}, {"the last leads to the other", "- 0", "- 0"}, {"a round that is led to", "1 0 0", "- 0"}, {"a round that is led to twice by one", "1 0 01", "- 0"}, {"a round that two of another lead to", "12 03 3 2", "- 0"}, {"a round of which both lead to both of another", "123 023 3 2", "- 0"}, {"a node that three of a round lead to", "13 23 03 -", "- 0"},
		{"not what is led to over others", "1 2 -", "- 0 1"}, {"a way back", "- 0 1", "- 0 1"}, {"what is led to at once as well", "12 2 -", "- 0 01"}, {"to several that stand in the order of their numbers", "12 - -", "- - 01"}, {"to several that stand the other way", "123 2 3 -", "- 0 1 012"}, {"each of a round to another one, the later first", "13 02 - 2", "- 0 01"}, {"each of a round to another one, the former first", "12 03 3 -", "- 0 01"},
		{"to the last of many", "5 - - - - -", "- - - - - 4"}, {"two rounds apart", "1 0 3 2", "- -"}, {"a long round", "1 2 3 4 5 6 7 8 9 a b 0", "-"}, {"a long way", "1 2 3 4 5 6 7 8 9 a b -", "- 0 1 2 3 4 5 6 7 8 9 a"}, {"a long way that comes back at its end", "1 2 3 4 5 6 7 8 9 a b 6", "- 0 1 2 3 4 5"},
		{"each to all behind it", "123456789ab 23456789ab 3456789ab 456789ab 56789ab 6789ab 789ab 89ab 9ab ab b -", "- 0 01 012 0123 01234 012345 0123456 01234567 012345678 0123456789 0123456789a"}, {"one that all lead to, itself too", "3 3 3 3", "- 0 0 0"},
	} {
		got, ok := impl.Shrink(links(c.links))
		wantListsOf(t, "Shrink: "+c.what, got, ok, links(c.want))
	}
}

func TestIsRoundless(t *testing.T) {
	many := map[bool]int{}
	for _, l := range goodLinks() {
		want := wantedRoundless(l)
		many[want]++
		got, ok := impl.IsRoundless(l)
		wantTold(t, fmt.Sprint("IsRoundless of ", l), got, ok, want)
	}
	if many[true] < 100 || many[false] < 1000 {
		t.Errorf("%d links were roundless, %d not", many[true], many[false])
	}
}

func TestIsRoundlessPlainly(t *testing.T) {
	for _, c := range []struct {
		what, links string
		want        bool
	}{
		{"no node", "", true}, {"one that leads nowhere", "-", true}, {"one that leads to itself", "0", false}, {"two apart", "- -", true}, {"two apart, the last to itself", "- 1", false}, {"one to another", "1 -", true}, {"one back to another", "- 0", true}, {"one to another that leads to itself", "1 1", false}, {"one to itself and to another", "01 -", false}, {"a round of two", "1 0", false}, {"a round of two to themselves", "01 01", false}, {"a round of three", "1 2 0", false},
		{"two ways to one", "12 3 3 -", true}, {"a round of the last two", "1 2 3 2", false}, {"a round of the first two", "1 0 - 2", false}, {"a round of the first and the last", "3 - - 0", false}, {"a way to and fro", "3 2 - 1", true},
		{"twelve that lead nowhere", "- - - - - - - - - - - -", true}, {"a long way", "1 2 3 4 5 6 7 8 9 a b -", true}, {"a long way back", "- 0 1 2 3 4 5 6 7 8 9 a", true}, {"a long way that comes back at its end", "1 2 3 4 5 6 7 8 9 a b 0", false}, {"a long way of which the last leads to itself", "1 2 3 4 5 6 7 8 9 a b b", false}, {"a long way of which the last leads to the one ahead", "1 2 3 4 5 6 7 8 9 a b a", false},
		{"each to all behind it", "123456789ab 23456789ab 3456789ab 456789ab 56789ab 6789ab 789ab 89ab 9ab ab b -", true}, {"each to all behind it, and the last to the first", "123456789ab 23456789ab 3456789ab 456789ab 56789ab 6789ab 789ab 89ab 9ab ab b 0", false},
	} {
		got, ok := impl.IsRoundless(links(c.links))
		wantTold(t, "IsRoundless: "+c.what, got, ok, c.want)
	}
}

func TestBadLinksAreRefused(t *testing.T) {
	for _, l := range badLinks() {
		what := fmt.Sprint(" of ", l)
		for _, node := range append(noNodes(len(l)), 0, 1, 11, len(l)-1) {
			got, ok := impl.ReachOf(l, node)
			refusedList(t, "ReachOf"+what, got, ok)
			got, ok = impl.GroupAt(l, node)
			refusedList(t, "GroupAt"+what, got, ok)
		}
		lists, ok := impl.GroupsOf(l)
		refusedLists(t, "GroupsOf"+what, lists, ok)
		lists, ok = impl.Shrink(l)
		refusedLists(t, "Shrink"+what, lists, ok)
		order, ok := impl.OrderBy(l)
		refusedList(t, "OrderBy"+what, order, ok)
		told, ok := impl.IsRoundless(l)
		refusedTold(t, "IsRoundless"+what, told, ok)
	}
}
