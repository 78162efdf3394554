package tests

import (
	"fmt"
	"slices"
	"testing"

	"loop.example/g00641/impl"
)

func TestLimitsOfChapter5(t *testing.T) {
	if impl.MaxDeps != 8 || impl.MaxCols != 6 {
		t.Error("the limits are", impl.MaxDeps, impl.MaxCols)
	}
}

func TestGoodDeps(t *testing.T) {
	for _, x := range goodTheories() {
		if !impl.GoodDeps(x.cols, x.l) {
			t.Errorf("%v is not good", x)
		}
	}
	for _, x := range badTheories() {
		if impl.GoodDeps(x.cols, x.l) {
			t.Errorf("%v is good", x)
		}
	}
}

func TestGoodDepsByColumns(t *testing.T) {
	for cols := -1; cols <= 8; cols++ {
		isOf := cols >= 1 && cols <= 6
		for a := -2; a <= 8; a++ {
			one := isOf && a >= 0 && a < cols
			for _, d := range []impl.Dep{dep([]int{a}, nil), dep(nil, []int{a}), dep([]int{a}, []int{a})} {
				if got := impl.GoodDeps(cols, []impl.Dep{d}); got != one {
					t.Errorf("%v of %d columns: good is %v", d, cols, got)
				}
			}
			for b := -2; b <= 8; b++ {
				two := isOf && a >= 0 && a < b && b < cols
				for _, d := range []impl.Dep{dep([]int{a, b}, nil), dep(nil, []int{a, b})} {
					if got := impl.GoodDeps(cols, []impl.Dep{d}); got != two {
						t.Errorf("%v of %d columns: good is %v", d, cols, got)
					}
				}
			}
		}
	}
}

func TestGoodDepsByHowMany(t *testing.T) {
	for many := range 20 {
		for _, d := range arrows(">", ">0", "0>", "0>1", "01>01") {
			if got := impl.GoodDeps(2, slices.Repeat([]impl.Dep{d}, many)); got != (many <= 8) {
				t.Errorf("%d of %v: good is %v", many, d, got)
			}
		}
	}
}

func TestClosureOf(t *testing.T) {
	for _, x := range goodTheories() {
		for _, some := range somesOf(upTo(x.cols)) {
			got, ok := impl.ClosureOf(x.cols, x.l, some)
			wantList(t, fmt.Sprint("ClosureOf ", x, some), got, ok, wantedClosure(x.cols, x.l, some))
		}
	}
}

func TestClosureOfPlainly(t *testing.T) {
	for _, c := range []struct {
		cols       int
		l          []impl.Dep
		some, want []int
	}{
		{1, nil, nil, nil}, {1, nil, []int{0}, []int{0}}, {6, nil, nil, nil}, {6, nil, []int{1, 4}, []int{1, 4}}, {6, nil, upTo(6), upTo(6)},
		{3, arrows("0>1", "1>2"), nil, nil}, {3, arrows("0>"), nil, nil}, {3, arrows(">"), nil, nil},
		{3, arrows(">1"), nil, []int{1}}, {3, arrows("1>2", ">1"), nil, []int{1, 2}}, {3, arrows(">1"), []int{2}, []int{1, 2}},
		{3, arrows("0>1", "1>2"), []int{0}, upTo(3)}, {3, arrows("0>1", "1>2"), []int{1}, []int{1, 2}}, {3, arrows("0>1", "1>2"), []int{2}, []int{2}},
		{3, arrows("01>2"), []int{0}, []int{0}}, {3, arrows("01>2"), []int{1}, []int{1}}, {3, arrows("01>2"), []int{0, 1}, upTo(3)},
		{4, arrows("3>0"), []int{3}, []int{0, 3}}, {4, arrows("1>02"), []int{1}, []int{0, 1, 2}}, {4, arrows("1>0", "1>3"), []int{1}, []int{0, 1, 3}},
		{6, arrows("4>5", "3>4", "2>3", "1>2", "0>1"), []int{0}, upTo(6)}, {6, arrows("4>5", "3>4", "2>3", "1>2", "0>1"), []int{3}, []int{3, 4, 5}},
		{6, arrows("4>5", "3>4", "2>3", "1>2", "0>1", ">0"), nil, upTo(6)}, {6, arrows("1>0", "2>1", "3>2", "4>3", "5>4"), []int{5}, upTo(6)},
		{6, arrows("0>1", "1>0", "2>3", "3>2"), []int{1, 2}, []int{0, 1, 2, 3}}, {6, arrows("0>1", "1>0"), []int{4}, []int{4}},
	} {
		got, ok := impl.ClosureOf(c.cols, c.l, c.some)
		wantList(t, fmt.Sprint("ClosureOf ", c.cols, c.l, c.some), got, ok, c.want)
	}
}

func TestClosureOfRefuses(t *testing.T) {
	for cols := 1; cols <= 6; cols++ {
		for _, some := range badColumns(cols) {
			for _, l := range [][]impl.Dep{nil, arrows(">0"), arrows("0>0"), {dep(nil, upTo(cols))}} {
				got, ok := impl.ClosureOf(cols, l, some)
				refusedList(t, fmt.Sprint("ClosureOf ", cols, l, some), got, ok)
			}
		}
	}
	for _, x := range badTheories() {
		for _, some := range [][]int{nil, {0}} {
			got, ok := impl.ClosureOf(x.cols, x.l, some)
			refusedList(t, fmt.Sprint("ClosureOf ", x, some), got, ok)
		}
	}
}

func TestImplies(t *testing.T) {
	for _, x := range append(edgeTheories(), madeTheories(60)...) {
		for _, d := range allDeps(x.cols) {
			got, ok := impl.Implies(x.cols, x.l, d)
			wantTold(t, fmt.Sprint("Implies ", x, d), got, ok, wantedImplies(x.cols, x.l, d))
		}
	}
}

func TestImpliesPlainly(t *testing.T) {
	for _, c := range []struct {
		cols int
		l    []impl.Dep
		d    impl.Dep
		want bool
	}{
		{1, nil, arrow(">"), true}, {1, nil, arrow("0>"), true}, {1, nil, arrow("0>0"), true}, {1, nil, arrow(">0"), false}, {1, arrows(">0"), arrow(">0"), true},
		{3, arrows("0>1", "1>2"), arrow("0>2"), true}, {3, arrows("0>1", "1>2"), arrow("0>12"), true}, {3, arrows("0>1", "1>2"), arrow("1>02"), false},
		{3, arrows("0>1", "1>2"), arrow("2>0"), false}, {3, arrows("0>1", "1>2"), arrow("02>1"), true}, {3, arrows("01>2"), arrow("0>2"), false},
		{3, arrows("0>2"), arrow("01>2"), true}, {3, arrows("0>2"), arrow("01>12"), true}, {6, arrows("0>5"), arrow("04>5"), true}, {6, arrows("0>5"), arrow("4>5"), false},
		{6, arrows("4>5", "3>4", "2>3", "1>2", "0>1"), arrow("0>5"), true}, {6, arrows("4>5", "3>4", "2>3", "1>2", "0>1"), arrow("1>05"), false},
	} {
		got, ok := impl.Implies(c.cols, c.l, c.d)
		wantTold(t, fmt.Sprint("Implies ", c.cols, c.l, c.d), got, ok, c.want)
	}
}

func TestKeysFor(t *testing.T) {
	for _, x := range goodTheories() {
		got, ok := impl.KeysFor(x.cols, x.l)
		wantListsOf(t, fmt.Sprint("KeysFor ", x), got, ok, wantedKeys(x.cols, x.l))
	}
}

func TestKeysForPlainly(t *testing.T) {
	for _, c := range []struct {
		cols int
		l    []impl.Dep
		want [][]int
	}{
		{1, nil, [][]int{{0}}}, {6, nil, [][]int{upTo(6)}}, {6, arrows(">"), [][]int{upTo(6)}}, {1, arrows(">0"), [][]int{{}}}, {6, arrows(">012345"), [][]int{{}}},
		{3, arrows("1>2", "0>1", ">0"), [][]int{{}}}, {3, arrows("0>1", "1>2"), [][]int{{0}}}, {3, arrows(">0"), [][]int{{1, 2}}},
		{2, arrows("0>1", "1>0"), [][]int{{0}, {1}}}, {3, arrows("0>1", "1>2", "2>0"), [][]int{{0}, {1}, {2}}},
		{3, arrows("2>01", "01>2"), [][]int{{0, 1}, {2}}}, {3, arrows("0>12", "12>0"), [][]int{{0}, {1, 2}}},
		{4, arrows("3>012", "02>3"), [][]int{{0, 2}, {3}}}, {4, arrows("0>1", "1>0"), [][]int{{0, 2, 3}, {1, 2, 3}}},
		{4, arrows("0>3", "3>0", "12>0"), [][]int{{1, 2}}}, {4, arrows("01>23", "23>01", "12>03"), [][]int{{0, 1}, {1, 2}, {2, 3}}},
		{6, arrows("0>1", "1>0", "2>3", "3>2", "4>5", "5>4"), [][]int{{0, 2, 4}, {1, 2, 4}, {0, 3, 4}, {1, 3, 4}, {0, 2, 5}, {1, 2, 5}, {0, 3, 5}, {1, 3, 5}}},
	} {
		got, ok := impl.KeysFor(c.cols, c.l)
		wantListsOf(t, fmt.Sprint("KeysFor ", c.cols, c.l), got, ok, c.want)
	}
}

// holdRelations are relations of which HoldsIn is asked: many have names that are not 0 up to.
func holdRelations() []impl.Relation {
	return slices.Concat(edgeRelations(), bitRelations([]int{2, 9, 20}), smallRelations(), madeRelations(60, 6))
}

func TestHoldsIn(t *testing.T) {
	for _, r := range holdRelations() {
		for _, from := range somesOf(r.Names) {
			for _, to := range somesOf(r.Names) {
				if len(r.Tuples) > 20 && len(from)+len(to) > 4 {
					continue
				}
				got, ok := impl.HoldsIn(r, dep(from, to))
				wantTold(t, fmt.Sprint("HoldsIn ", r, from, to), got, ok, wantedHolds(r, dep(from, to)))
			}
		}
	}
}

func TestHoldsInPlainly(t *testing.T) {
	r := relation([]int{3, 7, 20}, []int{0, 1, 5}, []int{0, 1, 6}, []int{1, 1, 5}, []int{2, 0, 5})
	for _, c := range []struct {
		r    impl.Relation
		d    impl.Dep
		want bool
	}{
		{r, dep([]int{3}, []int{7}), true}, {r, dep([]int{3}, []int{20}), false}, {r, dep([]int{7}, []int{3}), false}, {r, dep([]int{20}, []int{7}), false},
		{r, dep([]int{3, 20}, []int{7}), true}, {r, dep([]int{7, 20}, []int{3}), false}, {r, dep([]int{3}, []int{3}), true}, {r, dep([]int{3}, []int{3, 7}), true},
		{r, dep([]int{3}, []int{7, 20}), false}, {r, dep(nil, []int{7}), false}, {r, dep(nil, nil), true}, {r, dep([]int{3}, nil), true}, {r, dep([]int{3, 7, 20}, []int{3, 7, 20}), true},
		{relation([]int{3, 7}), dep(nil, []int{3, 7}), true}, {relation([]int{3, 7}), dep([]int{7}, []int{3}), true},
		{relation([]int{3, 7}, []int{5, 6}), dep(nil, []int{3, 7}), true}, {relation([]int{3, 7}, []int{5, 6}), dep([]int{7}, []int{3}), true},
		{relation([]int{3, 7}, []int{5, 6}, []int{7, 6}), dep(nil, []int{7}), true}, {relation([]int{3, 7}, []int{5, 6}, []int{7, 6}), dep(nil, []int{3}), false},
		{relation(nil), dep(nil, nil), true}, {relation(nil, []int{}), dep(nil, nil), true}, {impl.Relation{}, impl.Dep{}, true},
	} {
		got, ok := impl.HoldsIn(c.r, c.d)
		wantTold(t, fmt.Sprint("HoldsIn ", c.r, c.d), got, ok, c.want)
	}
}

// Two tuples may be unlike at any places: those that break a sentence are found wherever they stand, each with each.
func TestHoldsInLooksAtEachPair(t *testing.T) {
	for first := range 60 {
		for _, last := range []int{(first + 1) % 60, (first + 29) % 60, (first + 59) % 60} {
			r := relation([]int{0, 4, 5})
			for i := range 60 {
				r.Tuples = append(r.Tuples, []int{i, 100 + i, 7})
			}
			r.Tuples[last][1] = r.Tuples[first][1]
			got, ok := impl.HoldsIn(r, dep([]int{4}, []int{0}))
			wantTold(t, fmt.Sprint("HoldsIn of the like ones ", first, last), got, ok, false)
			got, ok = impl.HoldsIn(r, dep([]int{4}, []int{5}))
			wantTold(t, fmt.Sprint("HoldsIn under 5 of the like ones ", first, last), got, ok, true)
			r.Tuples[last][2] = 8
			got, ok = impl.HoldsIn(r, dep([]int{4}, []int{5}))
			wantTold(t, fmt.Sprint("HoldsIn of unlike ones ", first, last), got, ok, false)
		}
	}
}

func TestHoldsInRefuses(t *testing.T) {
	lists := [][]int{{9, 2}, {2, 2}, {2, 9, 9}, {2, 9, 4}, {2, 9, 20}, {0}, {0, 2}, {2, 3}, {2, 4, 9}, {3, 9}, {8}, {10}, {20}, repeated(2, 1000), upTo(21)}
	for _, n := range slices.Concat([]int{-1, 21}, extremes) {
		lists = append(lists, []int{n}, []int{2, n}, []int{n, 9}, []int{2, 9, n}, []int{n, n})
	}
	for _, r := range []impl.Relation{relation([]int{2, 9}), relation([]int{2, 9}, []int{0, 1}), relation([]int{2, 9}, []int{0, 1}, []int{0, 2})} {
		for _, bad := range lists {
			for _, d := range []impl.Dep{dep(bad, nil), dep(nil, bad), dep(bad, []int{2}), dep([]int{2, 9}, bad), dep(bad, bad)} {
				got, ok := impl.HoldsIn(r, d)
				refusedTold(t, fmt.Sprint("HoldsIn ", r, d), got, ok)
			}
		}
	}
	for _, r := range []impl.Relation{{}, relation(nil, []int{})} {
		for _, d := range arrows("0>", ">0", "0>0") {
			got, ok := impl.HoldsIn(r, d)
			refusedTold(t, fmt.Sprint("HoldsIn ", r, d), got, ok)
		}
	}
	for _, bad := range badRelations() {
		for _, d := range []impl.Dep{{}, dep(bad.Names, nil), dep(nil, bad.Names), arrow("0>0"), arrow("4>5"), dep(bad.Names, bad.Names)} {
			got, ok := impl.HoldsIn(bad, d)
			refusedTold(t, fmt.Sprint("HoldsIn ", bad, d), got, ok)
		}
	}
}

func TestWitnessFor(t *testing.T) {
	for _, x := range append(edgeTheories(), madeTheories(60)...) {
		for _, d := range allDeps(x.cols) {
			what := fmt.Sprint("WitnessFor ", x, d)
			got, ok := impl.WitnessFor(x.cols, x.l, d)
			if wantedImplies(x.cols, x.l, d) {
				refusedRelation(t, what, got, ok)
			} else {
				wantRelation(t, what, got, ok, wantedWitness(x.cols, x.l, d))
			}
		}
	}
}

func TestWitnessForPlainly(t *testing.T) {
	for _, c := range []struct {
		cols int
		l    []impl.Dep
		d    impl.Dep
		last []int
	}{
		{1, nil, arrow(">0"), []int{1}}, {3, nil, arrow(">0"), []int{1, 1, 1}}, {3, nil, arrow("0>1"), []int{0, 1, 1}}, {3, nil, arrow("02>1"), []int{0, 1, 0}},
		{3, arrows("0>1", "1>2"), arrow("1>0"), []int{1, 0, 0}}, {3, arrows("0>1", "1>2"), arrow("2>1"), []int{1, 1, 0}}, {3, arrows("0>1", "1>2"), arrow(">2"), []int{1, 1, 1}},
		{3, arrows(">1"), arrow(">01"), []int{1, 0, 1}}, {6, arrows("4>5", "3>4", "2>3", "1>2", "0>1"), arrow("2>05"), []int{1, 1, 0, 0, 0, 0}},
		{6, arrows("0>5"), arrow("0>1"), []int{0, 1, 1, 1, 1, 0}}, {6, nil, arrow("01234>5"), []int{0, 0, 0, 0, 0, 1}}, {6, nil, arrow("01234>45"), []int{0, 0, 0, 0, 0, 1}},
	} {
		got, ok := impl.WitnessFor(c.cols, c.l, c.d)
		wantRelation(t, fmt.Sprint("WitnessFor ", c.cols, c.l, c.d), got, ok, relation(upTo(c.cols), repeated(0, c.cols), c.last))
	}
	for _, d := range arrows(">", "0>", "0>0", "0>1", "0>2", "0>12", "012>012", "1>12") {
		got, ok := impl.WitnessFor(3, arrows("0>1", "1>2"), d)
		refusedRelation(t, fmt.Sprint("WitnessFor what is implied ", d), got, ok)
	}
}

func TestCoverOf(t *testing.T) {
	for _, x := range goodTheories() {
		got, ok := impl.CoverOf(x.cols, x.l)
		wantDeps(t, fmt.Sprint("CoverOf ", x), got, ok, wantedCover(x.cols, x.l))
	}
}

func TestCoverOfPlainly(t *testing.T) {
	for _, c := range []struct {
		what    string
		l, want []impl.Dep
	}{
		{"none", nil, nil}, {"one", arrows("0>1"), arrows("0>1")}, {"one that follows from nothing", arrows("01>1"), nil}, {"nothing", arrows(">"), nil},
		{"no To", arrows("012>", "0>"), nil}, {"itself", arrows("0>0", "2>1", "12>12"), arrows("2>1")}, {"no From", arrows(">0"), arrows(">0")},
		{"twice", arrows("0>1", "0>1"), arrows("0>1")}, {"three times", arrows("0>1", "1>2", "0>1", "0>1"), arrows("1>2", "0>1")},
		{"eight times", slices.Repeat(arrows(">012"), 8), arrows(">012")}, {"the first is left out", arrows("0>2", "0>1", "1>2"), arrows("0>1", "1>2")},
		{"the last is left out", arrows("0>1", "1>2", "0>2"), arrows("0>1", "1>2")}, {"one between is left out", arrows("0>1", "0>2", "1>2"), arrows("0>1", "1>2")},
		{"each from the other", arrows("0>12", "0>012"), arrows("0>012")}, {"the other way about", arrows("0>012", "0>12"), arrows("0>12")},
		{"in parts ahead", arrows("0>1", "0>2", "0>12"), arrows("0>12")}, {"in parts behind", arrows("0>12", "0>1", "0>2"), arrows("0>1", "0>2")},
		{"by what is left alone", arrows("01>2", "02>1", "0>12"), arrows("0>12")}, {"round", arrows("0>1", "1>2", "2>0"), arrows("0>1", "1>2", "2>0")},
		{"both ways round", arrows("0>1", "1>2", "2>0", "1>0", "2>1", "0>2"), arrows("1>0", "2>1", "0>2")}, {"more From", arrows("01>2", "0>2"), arrows("0>2")},
	} {
		got, ok := impl.CoverOf(3, c.l)
		wantDeps(t, "CoverOf: "+c.what, got, ok, c.want)
	}
}

// Promise 19: sentences that are not good are refused by all, whatever else is asked.
func TestBadSentencesAreRefused(t *testing.T) {
	for _, x := range badTheories() {
		keys, ok := impl.KeysFor(x.cols, x.l)
		refusedLists(t, fmt.Sprint("KeysFor ", x), keys, ok)
		cover, ok := impl.CoverOf(x.cols, x.l)
		refusedDeps(t, fmt.Sprint("CoverOf ", x), cover, ok)
		for _, d := range append(arrows(">", ">0", "0>", "0>0", "0>1"), x.l[:min(1, len(x.l))]...) {
			told, ok := impl.Implies(x.cols, x.l, d)
			refusedTold(t, fmt.Sprint("Implies ", x, d), told, ok)
			r, ok := impl.WitnessFor(x.cols, x.l, d)
			refusedRelation(t, fmt.Sprint("WitnessFor ", x, d), r, ok)
		}
	}
}

// Promise 19: so is a sentence that is not as said, of which it is asked, beside good ones that tell all or nothing.
func TestBadAskedSentencesAreRefused(t *testing.T) {
	for cols := 1; cols <= 6; cols++ {
		for _, d := range badDeps(cols) {
			for _, l := range [][]impl.Dep{nil, {dep(nil, upTo(cols))}} {
				told, ok := impl.Implies(cols, l, d)
				refusedTold(t, fmt.Sprint("Implies ", cols, l, d), told, ok)
				r, ok := impl.WitnessFor(cols, l, d)
				refusedRelation(t, fmt.Sprint("WitnessFor ", cols, l, d), r, ok)
			}
		}
	}
}

// Nor are sentences mended: CoverOf may not leave out the bad one, nor one beyond the limit.
func TestBadSentencesAreNotMended(t *testing.T) {
	for _, l := range [][]impl.Dep{arrows("0>0", "1>0", "3>3"), arrows("10>0"), arrows("00>0"), arrows("0>00"), slices.Repeat(arrows("0>1"), 9), arrows("3>")} {
		got, ok := impl.CoverOf(3, l)
		refusedDeps(t, fmt.Sprint("CoverOf ", l), got, ok)
	}
}
