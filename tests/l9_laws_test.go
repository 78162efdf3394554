package tests

import (
	"fmt"
	"slices"
	"testing"

	"loop.example/g00641/impl"
)

// lawLinks are many: all of up to four nodes, and greater ones.
func lawLinks() [][][]int {
	all := slices.Concat(edgeLinks(), madeLinks(1500))
	for many := range 5 {
		all = append(all, allLinks(many)...)
	}
	return all
}

// placeOfNodes tells for each of so many nodes in which list it stands, -1 for none; it tells false where one stands in two, or twice.
func placeOfNodes(groups [][]int, many int) ([]int, bool) {
	places := repeated(-1, many)
	for i, group := range groups {
		for _, node := range group {
			if node < 0 || node >= many || places[node] >= 0 {
				return nil, false
			}
			places[node] = i
		}
	}
	return places, true
}

// Promise 9: two nodes are in one list just where each leads to the other, each node is in just one, and no list leads to one behind it.
func TestGroupsLeadRoundAndStandBehindWhatTheyLeadTo(t *testing.T) {
	together, apart := 0, 0
	for _, l := range lawLinks() {
		groups := groupsOf(t, l)
		places, ok := placeOfNodes(groups, len(l))
		if !ok || slices.Contains(places, -1) {
			t.Fatalf("GroupsOf of %v: not each node once: %v", l, groups)
		}
		reach := [][]int{}
		for node := range l {
			reach = append(reach, reachOf(t, l, node))
		}
		for a, row := range l {
			for b := range l {
				both := slices.Contains(reach[a], b) && slices.Contains(reach[b], a)
				if both != (places[a] == places[b]) {
					t.Fatalf("GroupsOf of %v: %v, though %d and %d lead to each other: %v", l, groups, a, b, both)
				}
				if slices.Contains(row, b) && places[b] > places[a] {
					t.Fatalf("GroupsOf of %v: %v, though %d leads to %d", l, groups, a, b)
				}
				if places[a] == places[b] {
					together++
				} else {
					apart++
				}
			}
		}
	}
	if together < 10000 || apart < 10000 {
		t.Errorf("%d pairs were together, %d apart", together, apart)
	}
}

// Of two groups that stand side by side the first one has the lesser least node, or the other one leads to it: else the other one would have been ready, and ahead.
func TestGroupsThatAreAsReadyStandByTheirLeastNodes(t *testing.T) {
	asReady := 0
	for _, l := range lawLinks() {
		groups := groupsOf(t, l)
		for i := 1; i < len(groups); i++ {
			ahead, behind := groups[i-1], groups[i]
			if nextBits(l, bitsOf(behind))&bitsOf(ahead) != 0 {
				continue
			}
			asReady++
			if behind[0] < ahead[0] {
				t.Errorf("GroupsOf of %v: %v stands ahead of %v", l, ahead, behind)
			}
		}
	}
	if asReady < 10000 {
		t.Errorf("%d pairs of groups were as ready as each other", asReady)
	}
}

// What ReachOf tells is closed: it has the node, and all that one of it leads to; and it has nothing that may be left out.
func TestReachIsTheLeastThatIsClosed(t *testing.T) {
	eachNode(t, func(what string, l [][]int, node int) {
		reach := reachOf(t, l, node)
		at := slices.Index(reach, node)
		if at < 0 || nextBits(l, bitsOf(reach))&^bitsOf(reach) != 0 {
			t.Errorf("ReachOf%s: %v", what, reach)
		}
		// Of what is reached each one but the node is led to by one that may be walked to without it.
		for _, other := range reach {
			cut := copyTuples(l)
			cut[other] = nil
			if other != node && !slices.Contains(reachOf(t, cut, node), other) {
				t.Errorf("ReachOf%s: %v has %d, but not without what %d leads to", what, reach, other, other)
			}
		}
	})
}

func TestGroupAtIsTheListThatHasTheNode(t *testing.T) {
	eachNode(t, func(what string, l [][]int, node int) {
		group, ok := impl.GroupAt(l, node)
		groups := groupsOf(t, l)
		places, _ := placeOfNodes(groups, len(l))
		wantList(t, "GroupAt"+what, group, ok, groups[places[node]])
	})
}

// Shrunk links are good, lead round nowhere, and stand in order already; shrunk again they stay.
func TestShrunkLinksAreRoundless(t *testing.T) {
	for _, l := range lawLinks() {
		shrunk, ok := impl.Shrink(l)
		what := fmt.Sprint(" of ", shrunk, ", shrunk of ", l)
		if !ok || !impl.GoodLinks(shrunk) || len(shrunk) != len(groupsOf(t, l)) {
			t.Fatalf("Shrink of %v: %v, %v", l, shrunk, ok)
		}
		roundless, ok := impl.IsRoundless(shrunk)
		wantTold(t, "IsRoundless"+what, roundless, ok, true)
		order, ok := impl.OrderBy(shrunk)
		wantList(t, "OrderBy"+what, order, ok, upTo(len(shrunk)))
		again, ok := impl.Shrink(shrunk)
		wantListsOf(t, "Shrink"+what, again, ok, shrunk)
	}
}

// Groups lead to each other, at once or over others, just where their nodes do.
func TestShrunkLinksLeadWhereTheirNodesDo(t *testing.T) {
	eachNode(t, func(what string, l [][]int, node int) {
		places, _ := placeOfNodes(groupsOf(t, l), len(l))
		shrunk, _ := impl.Shrink(l)
		reached := []int{}
		for _, other := range reachOf(t, l, node) {
			reached = append(reached, places[other])
		}
		wantList(t, "ReachOf of shrunk links"+what, reachOf(t, shrunk, places[node]), true, onceEachOf(reached))
	})
}

// Links are roundless just where they are what Shrink makes of them, put into the order of OrderBy.
func TestRoundlessLinksAreTheirShrunkOnes(t *testing.T) {
	for _, l := range lawLinks() {
		order, ok := impl.OrderBy(l)
		shrunk, known := impl.Shrink(l)
		if !ok || !known {
			t.Fatalf("OrderBy or Shrink refuses %v", l)
		}
		renamed := [][]int{}
		for _, node := range order {
			row := []int{}
			for _, next := range l[node] {
				row = append(row, slices.Index(order, next))
			}
			slices.Sort(row)
			renamed = append(renamed, row)
		}
		got, ok := impl.IsRoundless(l)
		wantTold(t, fmt.Sprint("IsRoundless of ", l), got, ok, slices.EqualFunc(renamed, shrunk, sameTuple))
	}
}

// Links to all that is reached, links without those to themselves: the groups stand as they stood.
func TestGroupsHangOnWhatIsReachedAlone(t *testing.T) {
	for _, l := range lawLinks() {
		whole, bare := [][]int{}, [][]int{}
		for node, row := range l {
			whole = append(whole, reachOf(t, l, node))
			bare = append(bare, slices.DeleteFunc(slices.Clone(row), func(next int) bool { return next == node }))
		}
		groups := groupsOf(t, l)
		wantListsOf(t, fmt.Sprint("GroupsOf of all that is reached by ", l), groupsOf(t, whole), true, groups)
		wantListsOf(t, fmt.Sprint("GroupsOf of what leads to others in ", l), groupsOf(t, bare), true, groups)
	}
}

// Turned about, or with the nodes numbered another way, the same nodes are together.
func TestGroupsOfLinksTurnedAbout(t *testing.T) {
	for _, l := range lawLinks() {
		last := len(l) - 1
		turned, mirrored := make([][]int, len(l)), make([][]int, len(l))
		for node, row := range l {
			for _, next := range row {
				turned[next] = append(turned[next], node)
				mirrored[last-node] = append([]int{last - next}, mirrored[last-node]...)
			}
		}
		for node := range l {
			group, ok := impl.GroupAt(l, node)
			back, known := impl.GroupAt(turned, node)
			wantList(t, fmt.Sprint("GroupAt of links turned about, ", turned, node), back, ok && known, group)
			other, known := impl.GroupAt(mirrored, last-node)
			for i, n := range other {
				other[i] = last - n
			}
			slices.Reverse(other)
			wantList(t, fmt.Sprint("GroupAt of links mirrored, ", mirrored, last-node), other, ok && known, group)
		}
	}
}
