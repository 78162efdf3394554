package tests

import (
	"fmt"
	"slices"
	"testing"

	"loop.example/g00641/impl"
)

func TestIsLossless(t *testing.T) {
	for _, x := range splitTheories() {
		told, all := toldOf(x), 1<<x.cols-1
		for a := range all + 1 {
			for b := range all + 1 {
				got, ok := impl.IsLossless(x.cols, x.l, columnsIn(a), columnsIn(b))
				isWhole := a|b == all
				if ok != isWhole || got != (isWhole && wantedLossless(told, a, b)) {
					t.Fatalf("IsLossless of %v, %v and %v: got %v, %v", x, columnsIn(a), columnsIn(b), got, ok)
				}
			}
		}
	}
}

func TestIsLosslessPlainly(t *testing.T) {
	for _, c := range []struct {
		cols int
		l    []impl.Dep
		a, b []int
		want bool
	}{
		{3, arrows("1>2"), []int{0, 1}, []int{1, 2}, true}, {3, arrows("1>0"), []int{0, 1}, []int{1, 2}, true}, {3, arrows("0>1"), []int{0, 1}, []int{1, 2}, false},
		{3, arrows("1>2"), []int{1, 2}, []int{0, 1}, true}, {3, arrows("2>1"), []int{0, 1}, []int{1, 2}, false}, {3, nil, []int{0, 1}, []int{1, 2}, false},
		{3, arrows("0>12"), []int{0, 1}, []int{0, 2}, true}, {4, arrows("0>1"), []int{0, 1, 2}, []int{0, 3}, false}, {4, arrows("0>1", "1>2"), []int{0, 1, 2}, []int{0, 3}, true},
		{4, arrows("0>1", "3>2"), []int{0, 1, 2}, []int{0, 3}, false}, {6, arrows("2>3", "3>4", "4>5"), []int{0, 1, 2}, []int{2, 3, 4, 5}, true},
		{1, nil, []int{0}, []int{0}, true}, {6, nil, upTo(6), upTo(6), true}, {3, nil, upTo(3), nil, true}, {3, nil, nil, upTo(3), true}, {3, nil, upTo(3), []int{1}, true},
		{1, nil, nil, []int{0}, true}, {1, nil, []int{0}, nil, true}, {3, nil, []int{0}, []int{1, 2}, false}, {3, arrows("0>12", "12>0"), []int{0}, []int{1, 2}, false},
		{3, arrows(">0"), []int{0}, []int{1, 2}, true}, {3, arrows(">12"), []int{0}, []int{1, 2}, true}, {3, arrows(">1"), []int{0}, []int{1, 2}, false},
		{3, arrows("1>2", ">1"), []int{0}, []int{1, 2}, true}, {6, arrows(">012"), []int{0, 1, 2}, []int{3, 4, 5}, true}, {6, arrows(">02"), []int{0, 1, 2}, []int{3, 4, 5}, false},
	} {
		got, ok := impl.IsLossless(c.cols, c.l, c.a, c.b)
		wantTold(t, fmt.Sprint("IsLossless ", c.cols, c.l, c.a, c.b), got, ok, c.want)
	}
}

// Parts that have not all columns together are refused, whatever is told, two that are alike too.
func TestIsLosslessOfTooFewColumns(t *testing.T) {
	for cols := 1; cols <= 6; cols++ {
		for _, l := range [][]impl.Dep{nil, arrows(">0"), {dep(nil, upTo(cols))}} {
			for _, c := range [][2][]int{{nil, nil}, {upTo(cols - 1), nil}, {nil, upTo(cols)[1:]}, {upTo(cols - 1), upTo(cols - 1)}, {upTo(cols)[1:], upTo(cols)[1:]}} {
				got, ok := impl.IsLossless(cols, l, c[0], c[1])
				refusedTold(t, fmt.Sprint("IsLossless ", cols, l, c), got, ok)
			}
		}
	}
}

func TestIsLosslessRefuses(t *testing.T) {
	for cols := 1; cols <= 6; cols++ {
		for _, bad := range badColumns(cols) {
			for _, l := range [][]impl.Dep{nil, {dep(nil, upTo(cols))}} {
				for _, c := range [][2][]int{{bad, upTo(cols)}, {upTo(cols), bad}, {bad, bad}, {bad, nil}, {nil, bad}} {
					got, ok := impl.IsLossless(cols, l, c[0], c[1])
					refusedTold(t, fmt.Sprint("IsLossless ", cols, l, c), got, ok)
				}
			}
		}
	}
	for _, x := range badTheories() {
		for _, part := range [][]int{nil, {0}, upTo(min(max(x.cols, 0), 8))} {
			got, ok := impl.IsLossless(x.cols, x.l, part, part)
			refusedTold(t, fmt.Sprint("IsLossless ", x, part), got, ok)
		}
	}
}

func TestBadIn(t *testing.T) {
	for _, x := range goodTheories() {
		told := toldOf(x)
		for part := range told {
			got, ok := impl.BadIn(x.cols, x.l, columnsIn(part))
			want, found := wantedBad(told, part)
			if ok != found || !sameDep(got, want) {
				t.Fatalf("BadIn of %v, %v: got %v, %v; want %v, %v", x, columnsIn(part), got, ok, want, found)
			}
		}
	}
}

func TestBadInPlainly(t *testing.T) {
	for _, c := range []struct {
		what string
		cols int
		l    []impl.Dep
		part []int
		want impl.Dep
	}{
		{"one sentence", 3, arrows("1>2"), upTo(3), arrow("1>2")}, {"over others", 4, arrows("1>2", "2>3"), upTo(4), arrow("1>23")},
		{"the first by number, not the first sentence", 4, arrows("3>2", "0>1"), upTo(4), arrow("0>1")}, {"0 and 1 ahead of 2", 4, arrows("2>0", "01>2"), upTo(4), arrow("01>2")},
		{"3 behind 1 and 2", 5, arrows("3>4", "12>4"), upTo(5), arrow("12>4")},
		{"nothing tells one", 3, arrows(">1"), upTo(3), arrow(">1")}, {"nothing tells some", 6, arrows(">1", "1>35"), upTo(6), arrow(">135")},
		{"nothing first, though 0 is bad too", 3, arrows("0>2", ">1"), upTo(3), arrow(">1")}, {"nothing tells one of the part, and one beyond", 4, arrows(">13"), upTo(3), arrow(">1")},
		{"what is beyond the part is not told", 4, arrows("0>13"), upTo(3), arrow("0>1")}, {"by a column beyond the part", 4, arrows("0>3", "3>1"), upTo(3), arrow("0>1")},
		{"a part of some", 6, arrows("1>3"), []int{1, 3, 5}, arrow("1>3")}, {"a part of the last ones", 6, arrows("4>5", "5>0"), []int{3, 4, 5}, arrow("4>5")},
		{"the greatest list that may be bad", 6, arrows("1234>5"), upTo(6), arrow("1234>5")}, {"two that tell each other", 3, arrows("1>2", "2>1"), upTo(3), arrow("1>2")},
	} {
		got, ok := impl.BadIn(c.cols, c.l, c.part)
		wantDep(t, "BadIn: "+c.what, got, ok, c.want)
	}
}

func TestBadInOfNoBadList(t *testing.T) {
	for _, c := range []struct {
		what string
		cols int
		l    []impl.Dep
		part []int
	}{
		{"no column", 3, arrows("0>1", ">2"), nil}, {"no column, where nothing tells all", 6, arrows(">012345"), nil}, {"one column", 3, arrows("0>1", "2>0"), []int{1}},
		{"one column that nothing tells", 3, arrows(">1"), []int{1}}, {"no sentence", 6, nil, upTo(6)}, {"sentences that tell nothing more", 6, arrows(">", "0>", "012>12"), upTo(6)},
		{"a key", 3, arrows("0>12"), upTo(3)}, {"keys", 3, arrows("0>1", "1>2", "2>0"), upTo(3)}, {"nothing tells all", 3, arrows(">012"), upTo(3)},
		{"nothing tells all of the part", 4, arrows(">12"), []int{1, 2}}, {"a sentence that leads out", 3, arrows("0>2"), []int{0, 1}}, {"one that comes in", 3, arrows("2>0"), []int{0, 1}},
		{"a whole part", 4, arrows("1>2"), []int{1, 2}}, {"one of all columns", 1, nil, []int{0}}, {"nothing tells the one column", 1, arrows(">0"), []int{0}},
	} {
		got, ok := impl.BadIn(c.cols, c.l, c.part)
		refusedDep(t, "BadIn: "+c.what, got, ok)
	}
}

func TestBadInRefuses(t *testing.T) {
	for cols := 1; cols <= 6; cols++ {
		for _, part := range badColumns(cols) {
			for _, l := range [][]impl.Dep{nil, arrows(">0"), {dep([]int{0}, []int{cols - 1})}} {
				got, ok := impl.BadIn(cols, l, part)
				refusedDep(t, fmt.Sprint("BadIn ", cols, l, part), got, ok)
			}
		}
	}
	for _, x := range badTheories() {
		for _, part := range [][]int{nil, {0}, {0, 1}, upTo(min(max(x.cols, 0), 8))} {
			got, ok := impl.BadIn(x.cols, x.l, part)
			refusedDep(t, fmt.Sprint("BadIn ", x, part), got, ok)
		}
	}
	for _, l := range [][]impl.Dep{arrows("1>2", "21>0"), arrows("1>2", "1>3"), slices.Repeat(arrows("1>2"), 9)} {
		got, ok := impl.BadIn(3, l, upTo(3))
		refusedDep(t, fmt.Sprint("BadIn ", l), got, ok)
	}
}

func TestSplitBy(t *testing.T) {
	for cols := 1; cols <= 6; cols++ {
		for part := range 1 << cols {
			for from := range 1 << cols {
				for to := range 1 << cols {
					got, want := halvesBy(cols, columnsIn(part), dep(columnsIn(from), columnsIn(to))), wantedSplit(part, from, to)
					if !sameHalves(got, want) {
						t.Fatalf("SplitBy of %d columns, %v by %v and %v: got %v; want %v", cols, columnsIn(part), columnsIn(from), columnsIn(to), got, want)
					}
				}
			}
		}
	}
}

func TestSplitByPlainly(t *testing.T) {
	for _, c := range []struct {
		cols int
		part []int
		d    impl.Dep
		a, b []int
	}{
		{3, upTo(3), arrow("1>2"), []int{1, 2}, []int{0, 1}}, {3, upTo(3), arrow("2>1"), []int{1, 2}, []int{0, 2}}, {3, upTo(3), arrow("2>0"), []int{0, 2}, []int{1, 2}},
		{3, upTo(3), arrow("0>12"), upTo(3), []int{0}}, {3, upTo(3), arrow("02>1"), upTo(3), []int{0, 2}}, {6, []int{1, 3, 5}, arrow("5>1"), []int{1, 5}, []int{3, 5}},
		{3, upTo(3), arrow(">1"), []int{1}, []int{0, 2}}, {3, upTo(3), arrow(">012"), upTo(3), nil}, {3, upTo(3), arrow("1>"), []int{1}, upTo(3)},
		{3, upTo(3), arrow("012>"), upTo(3), upTo(3)}, {3, upTo(3), arrow(">"), nil, upTo(3)}, {3, nil, arrow(">"), nil, nil}, {1, []int{0}, arrow(">0"), []int{0}, nil},
		{1, []int{0}, arrow("0>"), []int{0}, []int{0}}, {1, nil, arrow(">"), nil, nil}, {6, upTo(6), arrow("5>01234"), upTo(6), []int{5}}, {6, []int{5}, arrow(">5"), []int{5}, nil},
	} {
		if got := halvesBy(c.cols, c.part, c.d); !sameHalves(got, halves{c.a, c.b, true}) {
			t.Errorf("SplitBy of %d columns, %v by %v: got %v; want %v, %v, true", c.cols, c.part, c.d, got, c.a, c.b)
		}
	}
}

func TestSplitByRefuses(t *testing.T) {
	for _, c := range []struct {
		part []int
		d    impl.Dep
	}{
		{upTo(3), arrow("0>0")}, {upTo(3), arrow("01>1")}, {upTo(3), arrow("01>12")}, {upTo(3), arrow("012>012")}, {upTo(3), arrow("2>02")},
		{[]int{0, 1}, arrow("0>2")}, {[]int{0, 1}, arrow("2>0")}, {[]int{0, 1}, arrow("02>1")}, {[]int{0, 1}, arrow("0>12")}, {[]int{0, 1}, arrow("2>")}, {[]int{0, 1}, arrow(">2")},
		{nil, arrow("0>")}, {nil, arrow(">0")}, {nil, arrow("0>1")}, {upTo(3), arrow("10>2")}, {upTo(3), arrow("0>21")}, {upTo(3), arrow("00>1")}, {upTo(3), arrow("0>11")},
	} {
		refusedSplit(t, 3, c.part, c.d)
	}
	for _, cols := range slices.Concat([]int{-1, -6, 0, 7, 8, 64}, extremes) {
		for _, part := range [][]int{nil, {0}, {0, 1}, upTo(7), {cols}} {
			for _, d := range []impl.Dep{{}, arrow("0>"), arrow(">0"), arrow("0>1"), arrow("0>6"), dep([]int{cols}, nil), dep(nil, []int{cols})} {
				refusedSplit(t, cols, part, d)
			}
		}
	}
	for cols := 1; cols <= 6; cols++ {
		for _, bad := range badColumns(cols) {
			for _, d := range []impl.Dep{{}, dep([]int{0}, nil), dep(nil, []int{cols - 1}), dep(bad, nil), dep(nil, bad), dep(bad, bad)} {
				refusedSplit(t, cols, bad, d)
			}
		}
		for _, d := range badDeps(cols) {
			refusedSplit(t, cols, upTo(cols), d)
			refusedSplit(t, cols, nil, d)
		}
	}
}

func TestSplitAll(t *testing.T) {
	for _, x := range goodTheories() {
		got, ok := impl.SplitAll(x.cols, x.l)
		wantListsOf(t, fmt.Sprint("SplitAll ", x), got, ok, wantedParts(toldOf(x), 1<<x.cols-1))
	}
}

func TestSplitAllPlainly(t *testing.T) {
	for _, c := range []struct {
		what string
		cols int
		l    []impl.Dep
		want [][]int
	}{
		{"one column", 1, nil, [][]int{{0}}}, {"one column that nothing tells", 1, arrows(">0"), [][]int{{0}}}, {"no sentence", 6, nil, [][]int{upTo(6)}},
		{"a key", 3, arrows("0>12"), [][]int{upTo(3)}}, {"keys all round", 3, arrows("0>1", "1>2", "2>0"), [][]int{upTo(3)}}, {"nothing tells all", 6, arrows(">012345"), [][]int{upTo(6)}},
		{"one step", 3, arrows("1>2"), [][]int{{1, 2}, {0, 1}}}, {"one step backwards", 3, arrows("2>1"), [][]int{{1, 2}, {0, 2}}},
		{"nothing tells one", 3, arrows(">1"), [][]int{{1}, {0, 2}}}, {"nothing tells one, and another tells", 4, arrows(">1", "0>2"), [][]int{{1}, {0, 2}, {0, 3}}},
		{"a chain from its front", 4, arrows("0>1", "1>2", "2>3"), [][]int{{2, 3}, {1, 2}, {0, 1}}},
		{"the second half gives way in turn", 5, arrows("0>1", "2>3"), [][]int{{0, 1}, {2, 3}, {0, 2, 4}}},
		{"the first half gives way in turn", 4, arrows("0>1", "1>2"), [][]int{{1, 2}, {0, 1}, {0, 3}}},
		{"both halves give way in turn", 6, arrows("0>1", "1>2", "3>4"), [][]int{{1, 2}, {0, 1}, {3, 4}, {0, 3, 5}}},
		{"a chain and its end apart", 6, arrows("1>2", "2>3", "3>4", "4>5"), [][]int{{4, 5}, {3, 4}, {2, 3}, {1, 2}, {0, 1}}},
		{"by a column that is gone", 4, arrows("0>1", "12>3"), [][]int{{0, 1}, {0, 2, 3}}},
		{"a sentence that is not kept", 3, arrows("01>2", "2>1"), [][]int{{1, 2}, {0, 2}}},
	} {
		got, ok := impl.SplitAll(c.cols, c.l)
		wantListsOf(t, "SplitAll: "+c.what, got, ok, c.want)
	}
}

func TestSplitAllRefuses(t *testing.T) {
	for _, x := range badTheories() {
		got, ok := impl.SplitAll(x.cols, x.l)
		refusedLists(t, fmt.Sprint("SplitAll ", x), got, ok)
	}
}

// Of many columns some sentences are asked of each part, and all of them of some part.
func TestIsKept(t *testing.T) {
	for _, x := range append(edgeTheories(), madeTheories(24)...) {
		told, asked, every := toldOf(x), allDeps(x.cols), 1
		if x.cols > 4 {
			every = 11
		}
		for part := range told {
			for i, d := range asked {
				if (i+part)%every != 0 {
					continue
				}
				got, ok := impl.IsKept(x.cols, x.l, columnsIn(part), d)
				from, to := bitsOf(d.From), bitsOf(d.To)
				isOfPart := (from|to)&^part == 0
				if ok != isOfPart || got != (isOfPart && told[from]&to == to) {
					t.Fatalf("IsKept of %v, %v, %v: got %v, %v", x, columnsIn(part), d, got, ok)
				}
			}
		}
	}
}

func TestIsKeptPlainly(t *testing.T) {
	l := arrows("0>1", "1>2")
	for _, c := range []struct {
		part []int
		d    impl.Dep
		want bool
	}{
		{[]int{1, 2}, arrow("1>2"), true}, {[]int{1, 2}, arrow("2>1"), false}, {[]int{0, 2}, arrow("0>2"), true}, {[]int{0, 2}, arrow("2>0"), false}, {[]int{0, 2}, arrow("0>02"), true},
		{upTo(3), arrow("0>12"), true}, {upTo(3), arrow("1>02"), false}, {upTo(3), arrow("12>1"), true}, {nil, arrow(">"), true}, {[]int{1}, arrow(">"), true}, {[]int{1}, arrow(">1"), false},
		{[]int{1}, arrow("1>"), true}, {[]int{1}, arrow("1>1"), true},
	} {
		got, ok := impl.IsKept(3, l, c.part, c.d)
		wantTold(t, fmt.Sprint("IsKept ", c.part, c.d), got, ok, c.want)
	}
	for _, c := range []struct {
		part []int
		d    impl.Dep
	}{
		{[]int{1, 2}, arrow("0>1")}, {[]int{1, 2}, arrow("1>0")}, {[]int{0, 1}, arrow("0>2")}, {[]int{0, 1}, arrow("0>12")}, {[]int{0, 1}, arrow("02>1")},
		{[]int{0, 1}, arrow("2>")}, {[]int{0, 1}, arrow(">2")}, {nil, arrow("0>1")}, {nil, arrow("0>")}, {nil, arrow(">0")}, {[]int{0, 1}, arrow("2>2")},
	} {
		got, ok := impl.IsKept(3, l, c.part, c.d)
		refusedTold(t, fmt.Sprint("IsKept beyond the part ", c.part, c.d), got, ok)
	}
}

func TestIsKeptRefuses(t *testing.T) {
	for _, x := range badTheories() {
		for _, d := range append(arrows(">", "0>0"), x.l[:min(1, len(x.l))]...) {
			got, ok := impl.IsKept(x.cols, x.l, upTo(min(max(x.cols, 0), 8)), d)
			refusedTold(t, fmt.Sprint("IsKept ", x, d), got, ok)
		}
	}
	for cols := 1; cols <= 6; cols++ {
		all := upTo(cols)
		for _, l := range [][]impl.Dep{nil, {dep(nil, all)}} {
			for _, d := range badDeps(cols) {
				got, ok := impl.IsKept(cols, l, all, d)
				refusedTold(t, fmt.Sprint("IsKept ", cols, l, d), got, ok)
			}
			for _, bad := range badColumns(cols) {
				for _, d := range []impl.Dep{{}, arrow("0>0"), dep(bad, nil), dep(nil, bad), dep(bad, bad)} {
					got, ok := impl.IsKept(cols, l, bad, d)
					refusedTold(t, fmt.Sprint("IsKept ", cols, l, bad, d), got, ok)
				}
			}
		}
	}
}
