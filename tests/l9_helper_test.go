package tests

import (
	"fmt"
	"math/bits"
	"slices"
	"strings"
	"testing"

	"loop.example/g00641/impl"
)

// Nodes are written as digits, 10 and 11 as a and b.
const nodeDigits = "0123456789ab"

// links reads a row a word, "-" for one that leads nowhere: "1 - 01" is that 0 leads to 1, 1 nowhere, and 2 to both.
func links(text string) [][]int {
	l := [][]int{}
	for _, word := range strings.Fields(text) {
		row := []int{}
		for _, c := range strings.Trim(word, "-") {
			row = append(row, strings.IndexRune(nodeDigits, c))
		}
		l = append(l, row)
	}
	return l
}

// nodesOf reads a list of nodes; "" is none.
func nodesOf(word string) []int {
	return slices.Concat(links(word)...)
}

func nodesIn(set int) []int {
	l := []int{}
	for node := range 64 {
		if set>>node&1 == 1 {
			l = append(l, node)
		}
	}
	return l
}

// The tests say where links lead by bits, a number a node: over one node after
// the other what leads there leads on to all that it leads to (Warshall).
func leadsOf(l [][]int) []int {
	leads := make([]int, len(l))
	for node, row := range l {
		leads[node] = bitsOf(row) | 1<<node
	}
	for over := range l {
		for node := range l {
			if leads[node]>>over&1 == 1 {
				leads[node] |= leads[over]
			}
		}
	}
	return leads
}

func wantedReach(l [][]int, from int) []int {
	return nodesIn(leadsOf(l)[from])
}

// groupBits are for each node the bits of its group.
func groupBits(l [][]int) []int {
	leads := leadsOf(l)
	groups := make([]int, len(l))
	for node := range l {
		for other := range l {
			if leads[node]>>other&1 == 1 && leads[other]>>node&1 == 1 {
				groups[node] |= 1 << other
			}
		}
	}
	return groups
}

func wantedGroup(l [][]int, node int) []int {
	return nodesIn(groupBits(l)[node])
}

// nextBits are the bits that the rows of some nodes have together.
func nextBits(l [][]int, some int) int {
	next := 0
	for _, node := range nodesIn(some) {
		next |= bitsOf(l[node])
	}
	return next
}

// wantedNodeGroups asks group after group, by its least node, whether all that its rows have is told or in it, and begins anew with each that is.
func wantedNodeGroups(l [][]int) [][]int {
	groups := groupBits(l)
	slices.SortFunc(groups, func(a int, b int) int { return bits.TrailingZeros(uint(a)) - bits.TrailingZeros(uint(b)) })
	groups = slices.Compact(groups)
	told, done := [][]int{}, 0
	for len(told) < len(groups) {
		for _, group := range groups {
			if group&done == 0 && nextBits(l, group)&^(group|done) == 0 {
				told, done = append(told, nodesIn(group)), done|group
				break
			}
		}
	}
	return told
}

// firstOrder tells by trying: of all orders of the groups in which each is behind all that it leads to the one that has the lesser least node at the first place where two are unlike.
func firstOrder(l [][]int) [][]int {
	groups := groupBits(l)
	slices.Sort(groups)
	groups = slices.Compact(groups)
	best := [][]int{}
	var try func(told [][]int, left []int, done int)
	try = func(told [][]int, left []int, done int) {
		if len(left) == 0 && (len(best) == 0 || slices.CompareFunc(told, best, func(a []int, b []int) int { return a[0] - b[0] }) < 0) {
			best = slices.Clone(told)
		}
		for i, group := range left {
			if nextBits(l, group)&^(group|done) == 0 {
				try(append(slices.Clone(told), nodesIn(group)), slices.Concat(left[:i], left[i+1:]), done|group)
			}
		}
	}
	try(nil, groups, 0)
	return best
}

func wantedShrunk(l [][]int) [][]int {
	groups := wantedNodeGroups(l)
	shrunk := make([][]int, len(groups))
	for i, group := range groups {
		next := nextBits(l, bitsOf(group))
		for k, other := range groups {
			if k != i && next&bitsOf(other) != 0 {
				shrunk[i] = append(shrunk[i], k)
			}
		}
	}
	return shrunk
}

func wantedRoundless(l [][]int) bool {
	for node, group := range groupBits(l) {
		if group != 1<<node || slices.Contains(l[node], node) {
			return false
		}
	}
	return true
}

// allLinks are all of so many nodes.
func allLinks(many int) [][][]int {
	all := [][][]int{}
	for code := range 1 << (many * many) {
		l := make([][]int, many)
		for node := range l {
			l[node] = nodesIn(code >> (node * many) & (1<<many - 1))
		}
		all = append(all, l)
	}
	return all
}

// smallLinks are all of up to three nodes, and of four each so manieth.
func smallLinks() [][][]int {
	all := [][][]int{}
	for many := range 4 {
		all = append(all, allLinks(many)...)
	}
	for i, l := range allLinks(4) {
		if i%13 == 0 {
			all = append(all, l)
		}
	}
	return all
}

// madeLinks are so many, of up to MaxNodes nodes, by a fixed rule that spreads them: of few links and of many, and some of them without a round beside what leads to itself.
func madeLinks(many int) [][][]int {
	next := spreading(29)
	all := [][][]int{}
	for i := range many {
		l := make([][]int, 1+next(12))
		for node := range l {
			for other := range l {
				one := next(len(l)*(1+i%4)) < 2+i%3
				if one && (i%5 > 0 || (node*5+i)%13 >= (other*5+i)%13) {
					l[node] = append(l[node], other)
				}
			}
		}
		all = append(all, l)
	}
	return all
}

// edgeLinks stand at the limits that the document names, and at the ends of what links may be.
func edgeLinks() [][][]int {
	all := [][][]int{nil, {}, {nil}, {{}}, {{0}}, {nil, nil}, make([][]int, 11), make([][]int, 12), slices.Repeat([][]int{upTo(12)}, 12), slices.Repeat([][]int{upTo(11)}, 12), slices.Repeat([][]int{{0}}, 12), slices.Repeat([][]int{{11}}, 12)}
	for _, text := range []string{
		"0 1 2 3 4 5 6 7 8 9 a b", "1 2 3 4 5 6 7 8 9 a b 0", "b 0 1 2 3 4 5 6 7 8 9 a", "1 2 3 4 5 6 7 8 9 a b -", "- 0 1 2 3 4 5 6 7 8 9 a",
		"1 2 3 4 5 6 7 8 9 a b 6", "1 2 3 4 5 6 7 8 9 a b b", "0 0 1 2 3 4 5 6 7 8 9 a", "5 0 1 2 3 4 5 6 7 8 9 a", "1 2 3 4 5 0 7 8 9 a b 6", "1 2 3 4 5 06 7 8 9 a b 6", "1 2 3 4 5 0 7 8 9 a b 06",
		"- 0 01 012 0123 01234 012345 0123456 01234567 012345678 0123456789 0123456789a", "123456789ab 23456789ab 3456789ab 456789ab 56789ab 6789ab 789ab 89ab 9ab ab b -",
		"b a 9 8 7 6 5 4 3 2 1 0", "0b a 9 8 7 6 56 45 34 23 12 01", "6 7 8 9 a b - - - - - -", "- - - - - - 0 1 2 3 4 5", "2 3 4 5 6 7 8 9 a b 0 1", "2 3 4 5 6 7 8 9 a b 0 01",
	} {
		all = append(all, links(text))
	}
	return all
}

func goodLinks() [][][]int {
	return slices.Concat(edgeLinks(), smallLinks(), madeLinks(300))
}

// badRowsOf are rows of links of so many nodes that do not rise, or of which not all are nodes.
func badRowsOf(many int) [][]int {
	last := many - 1
	all := [][]int{{-1}, {many}, {-1, 0}, {-1, last}, {0, many}, {last, many}, {0, 0}, {last, last}, {-1, -1}, {0, -1}, {many, 0}, upTo(many + 1), append(upTo(many), last), append(upTo(many), 0), repeated(0, 1000), upTo(1000), repeated(last, 13)}
	if many > 1 {
		all = append(all, []int{1, 0}, []int{last, 0}, []int{0, last, 0}, []int{0, 0, last}, []int{0, last, last}, []int{0, -1, last}, []int{0, many, last})
	}
	if many > 2 {
		all = append(all, []int{0, 2, 1}, []int{1, 0, 2}, []int{2, 1, 0}, []int{0, 1, 1, 2})
	}
	for _, n := range extremes {
		all = append(all, []int{n}, []int{n, 0}, []int{0, n}, []int{0, n, last}, []int{n, n})
	}
	return all
}

// badLinks are too many rows, or have a bad one at either end or between.
func badLinks() [][][]int {
	all := [][][]int{make([][]int, 13), make([][]int, 14), make([][]int, 1000), slices.Repeat([][]int{{0}}, 13), slices.Repeat([][]int{upTo(13)}, 13), slices.Repeat([][]int{upTo(12)}, 13), append(links("1 2 3 4 5 6 7 8 9 a b"), []int{12}, []int{0})}
	for _, many := range []int{1, 2, 3, 7, 12} {
		for i, bad := range badRowsOf(many) {
			for at := range many {
				l := make([][]int, many)
				for node := range l {
					l[node] = upTo(many)[:(node+i)%(many+1)]
				}
				l[at] = bad
				all = append(all, l)
			}
		}
		all = append(all, slices.Repeat([][]int{{many}}, many), slices.Repeat([][]int{{-1}}, many))
	}
	return all
}

// noNodes are no nodes of links of so many.
func noNodes(many int) []int {
	return append([]int{-2, -1, many, many + 1, 12, 13, 64}, extremes...)
}

// eachNode asks check of all good links and each of their nodes.
func eachNode(t *testing.T, check func(what string, l [][]int, node int)) {
	t.Helper()
	many := 0
	for _, l := range goodLinks() {
		for node := range l {
			many++
			check(fmt.Sprintf(" of %v at %d", l, node), l, node)
		}
	}
	if many < 20000 {
		t.Errorf("%d nodes were asked for", many)
	}
}

func groupsOf(t *testing.T, l [][]int) [][]int {
	t.Helper()
	groups, ok := impl.GroupsOf(l)
	if !ok {
		t.Fatalf("GroupsOf refuses %v", l)
	}
	return groups
}

func reachOf(t *testing.T, l [][]int, from int) []int {
	t.Helper()
	reach, ok := impl.ReachOf(l, from)
	if !ok {
		t.Fatalf("ReachOf refuses %v from %d", l, from)
	}
	return reach
}
