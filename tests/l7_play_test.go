package tests

import (
	"fmt"
	"slices"
	"testing"

	"loop.example/g00641/impl"
)

func TestLimitsOfChapter7(t *testing.T) {
	wantInt(t, "MaxActs", impl.MaxActs, true, 16)
	wantInt(t, "Dealers", impl.Dealers, true, 4)
	wantInt(t, "Items", impl.Items, true, 4)
}

func TestGoodPlay(t *testing.T) {
	for _, l := range goodPlays() {
		if !impl.GoodPlay(l) {
			t.Errorf("%v is not good", l)
		}
	}
	for _, l := range badPlays() {
		if impl.GoodPlay(l) {
			t.Errorf("%v is good", l)
		}
	}
}

func TestGoodPlayByWhoAndItem(t *testing.T) {
	for who := -2; who <= 5; who++ {
		for item := -2; item <= 5; item++ {
			for _, write := range []bool{false, true} {
				a := impl.Act{Who: who, Item: item, Write: write}
				want := who >= 0 && who <= 3 && item >= 0 && item <= 3
				for _, l := range [][]impl.Act{{a}, append(play("0r0"), a), append([]impl.Act{a}, play("3w3")...), append(each(15, "1w1"), a)} {
					if impl.GoodPlay(l) != want {
						t.Errorf("GoodPlay of %v: got %v", l, !want)
					}
				}
			}
		}
	}
}

func TestGoodPlayByHowMany(t *testing.T) {
	for many := range 40 {
		for _, act := range []string{"0r0", "3w3"} {
			if got := impl.GoodPlay(each(many, act)); got != (many <= 16) {
				t.Errorf("GoodPlay of %d acts: got %v", many, got)
			}
		}
	}
}

func TestConflictsOf(t *testing.T) {
	for _, l := range goodPlays() {
		got, ok := impl.ConflictsOf(l)
		wantList(t, fmt.Sprint("ConflictsOf ", l), got, ok, wantedConflicts(l))
	}
}

func TestConflictsOfPlainly(t *testing.T) {
	for _, c := range []struct {
		what string
		l    []impl.Act
		// By the pair: 4 times the first and the second.
		want map[int]int
	}{
		{"no act", nil, nil}, {"one act", play("0w0"), nil}, {"acts of one alone", play("1w0 1r0 1w0 1w0 1r0"), nil}, {"16 acts of one alone", each(16, "3w3"), nil},
		{"two reads", play("0r0 1r0"), nil}, {"16 reads of one item", each(4, "0r0 1r0 2r0 3r0"), nil}, {"a read and a write", play("0r0 1w0"), map[int]int{1: 1}},
		{"a write and a read", play("0w0 1r0"), map[int]int{1: 1}}, {"two writes", play("0w0 1w0"), map[int]int{1: 1}}, {"the second one's ahead", play("1w0 0r0"), map[int]int{4: 1}},
		{"two items", play("0w0 1w1"), nil}, {"four on four items", each(4, "0w0 1w1 2w2 3w3"), nil}, {"the last ones", play("2w3 3r3"), map[int]int{11: 1}},
		{"the last ones the other way", play("3w3 2w3"), map[int]int{14: 1}}, {"both ways round", play("0w0 1w0 0r0"), map[int]int{1: 1, 4: 1}},
		{"both ways round on two items", play("0r0 1w0 1r1 0w1"), map[int]int{1: 1, 4: 1}}, {"several times", play("0w0 0r0 1w0 1r0"), map[int]int{1: 3}},
		{"several times both ways", play("2w1 3r1 2w1 3r1"), map[int]int{11: 3, 14: 1}}, {"far apart", play("0w2 1r0 2r1 3r3 0r3 1w2"), map[int]int{1: 1}},
		{"as often as may be", slices.Concat(each(8, "0w0"), each(8, "3w0")), map[int]int{3: 64}}, {"a write ahead of many reads", append(play("1w0"), each(15, "0r0")...), map[int]int{4: 15}},
		{"three in a row", play("0w0 1w0 2w0"), map[int]int{1: 1, 2: 1, 6: 1}}, {"all four", play("3w1 2r1 1r1 0w1"), map[int]int{14: 1, 13: 1, 12: 1, 8: 1, 4: 1}},
	} {
		want := make([]int, 16)
		for pair, many := range c.want {
			want[pair] = many
		}
		got, ok := impl.ConflictsOf(c.l)
		wantList(t, "ConflictsOf: "+c.what, got, ok, want)
	}
}

func TestSerialOf(t *testing.T) {
	with, without := 0, 0
	for _, l := range goodPlays() {
		got, ok := impl.SerialOf(l)
		want, found := wantedSerial(l)
		if ok != found || !slices.Equal(got, want) {
			t.Fatalf("SerialOf %v: got %v, %v; want %v, %v", l, got, ok, want, found)
		}
		if found {
			with++
		} else {
			without++
		}
	}
	if with < 1000 || without < 400 {
		t.Errorf("%d plays with an order were tried, and %d without", with, without)
	}
}

func TestSerialOfPlainly(t *testing.T) {
	for _, c := range []struct {
		what string
		l    []impl.Act
		want []int
	}{
		{"no act", nil, upTo(4)}, {"one act", play("3w3"), upTo(4)}, {"acts of one alone", play("2w0 2r0 2w0"), upTo(4)}, {"reads alone", each(4, "3r0 2r0 1r0 0r0"), upTo(4)},
		{"on four items", play("3w3 2w2 1w1 0w0 3w3"), upTo(4)}, {"as they are numbered", play("0w0 1w0 2w0 3w0"), upTo(4)}, {"the other way", play("3w0 2w0 1w0 0w0"), []int{3, 2, 1, 0}},
		{"1 ahead of 0", play("1w0 0r0"), []int{1, 0, 2, 3}}, {"3 ahead of 0", play("3w0 0r0"), []int{1, 2, 3, 0}}, {"3 ahead of 1", play("3r0 1w0"), []int{0, 2, 3, 1}},
		{"3 ahead of 2", play("3r1 2w1"), []int{0, 1, 3, 2}}, {"0 comes at once behind what it waits for", play("1w0 0r0 3w1 2r1"), []int{1, 0, 3, 2}}, {"2 ahead of 0, and 3 of 1", play("2w0 0w0 3w1 1w1"), []int{2, 0, 3, 1}},
		{"2 ahead of 0 and 1", play("2w0 0r0 1r0"), []int{2, 0, 1, 3}}, {"3 ahead of all", play("3w0 0r0 1r0 2r0"), []int{3, 0, 1, 2}}, {"0 behind all", play("1r0 2r0 3r0 0w0"), []int{1, 2, 3, 0}},
		{"a chain over 3", play("2w0 3r0 3w1 0r1"), []int{1, 2, 3, 0}}, {"a chain against the acts", play("1w1 0r1 2w2 1r2"), []int{2, 1, 0, 3}}, {"clashes that say the same twice", play("1w0 0w0 1r1 0w1"), []int{1, 0, 2, 3}},
	} {
		got, ok := impl.SerialOf(c.l)
		wantList(t, "SerialOf: "+c.what, got, ok, c.want)
	}
}

func TestSerialOfWhereThereIsNone(t *testing.T) {
	for _, c := range []struct {
		what string
		l    []impl.Act
	}{
		{"two ahead of each other", play("0w0 1w0 0w0")}, {"a read between two writes", play("0w0 1r0 0w0")}, {"a write between two reads", play("2r3 3w3 2r3")},
		{"two on two items", play("0w0 1r0 1w1 0r1")}, {"a lost change", play("0r0 1r0 0w0 1w0")}, {"the last two", play("3w0 2w0 3w1 2w2 3w0")},
		{"three round about", play("0w0 1r0 1w1 2r1 2w2 0r2")}, {"three round about the other way", play("0r0 1w0 2r1 0w1 1r2 2w2")}, {"four round about", play("0w0 1r0 1w1 2r1 2w2 3r2 3w3 0r3")},
		{"two of the last ones, behind good ones", play("0w0 1r0 2w1 3w1 2w1")}, {"three of the last ones", play("1w0 2r0 2w1 3r1 3w2 1r2")}, {"three, of which two would do", play("0w0 1w0 1w1 2w1 2w0 0r0")},
	} {
		got, ok := impl.SerialOf(c.l)
		refusedList(t, "SerialOf: "+c.what, got, ok)
	}
}

func TestOneByOne(t *testing.T) {
	for i, l := range goodPlays() {
		for k, order := range dealerOrders() {
			if len(l) < 5 && k%6 != i%6 {
				continue
			}
			got, ok := impl.OneByOne(l, order)
			wantPlay(t, fmt.Sprint("OneByOne of ", l, order), got, ok, wantedOneByOne(l, order))
		}
	}
}

func TestOneByOnePlainly(t *testing.T) {
	for _, c := range []struct {
		l     []impl.Act
		order []int
		want  []impl.Act
	}{
		{nil, upTo(4), nil}, {nil, []int{3, 2, 1, 0}, nil}, {play("2w1"), []int{3, 2, 1, 0}, play("2w1")}, {play("0r0 1r1 2r2 3r3"), []int{3, 1, 0, 2}, play("3r3 1r1 0r0 2r2")},
		{play("0w0 1w0 0r0 1r0 0r1"), []int{1, 0, 2, 3}, play("1w0 1r0 0w0 0r0 0r1")}, {play("0w0 1w0 0r0 1r0 0r1"), []int{2, 0, 3, 1}, play("0w0 0r0 0r1 1w0 1r0")},
		{play("3r3 3r0 3w3 3r0"), upTo(4), play("3r3 3r0 3w3 3r0")}, {play("3r3 0w0 3r0 0w0"), []int{1, 3, 2, 0}, play("3r3 3r0 0w0 0w0")},
		{each(4, "0w0 1w1 2w2 3w3"), []int{2, 0, 3, 1}, slices.Concat(each(4, "2w2"), each(4, "0w0"), each(4, "3w3"), each(4, "1w1"))},
	} {
		got, ok := impl.OneByOne(c.l, c.order)
		wantPlay(t, fmt.Sprint("OneByOne of ", c.l, c.order), got, ok, c.want)
	}
}

func TestOneByOneRefuses(t *testing.T) {
	for _, order := range badOrders() {
		for _, l := range [][]impl.Act{nil, play("0r0"), play("3w3 0r0"), each(16, "1w1"), each(4, "3w0 2w0 1w0 0w0")} {
			got, ok := impl.OneByOne(l, order)
			refusedPlay(t, fmt.Sprint("OneByOne of ", l, order), got, ok)
		}
	}
	for _, l := range badPlays() {
		for _, order := range [][]int{upTo(4), {3, 1, 2, 0}, nil, {0, 1, 2}, {0, 1, 2, 4}} {
			got, ok := impl.OneByOne(l, order)
			refusedPlay(t, fmt.Sprint("OneByOne of ", l, order), got, ok)
		}
	}
}

func TestReadsFromAndLastWrites(t *testing.T) {
	for _, l := range goodPlays() {
		want := runOf(l)
		got, ok := impl.ReadsFrom(l)
		wantList(t, fmt.Sprint("ReadsFrom of ", l), got, ok, want.from)
		got, ok = impl.LastWrites(l)
		wantList(t, fmt.Sprint("LastWrites of ", l), got, ok, want.last[:])
	}
}

func TestReadsFromAndLastWritesPlainly(t *testing.T) {
	for _, c := range []struct {
		what string
		l    []impl.Act
		from []int
		last []int
	}{
		{"no act", nil, nil, []int{-1, -1, -1, -1}}, {"one read", play("3r3"), []int{-1}, []int{-1, -1, -1, -1}}, {"one write", play("3w3"), []int{-2}, []int{-1, -1, -1, 0}},
		{"reads alone", each(16, "1r2"), repeated(-1, 16), []int{-1, -1, -1, -1}}, {"writes alone", each(16, "1w2"), repeated(-2, 16), []int{-1, -1, 15, -1}},
		{"of another", play("1w0 0r0"), []int{-2, 0}, []int{0, -1, -1, -1}}, {"of its own", play("0w0 0r0"), []int{-2, 0}, []int{0, -1, -1, -1}}, {"ahead of all writes", play("0r0 1w0 0w0"), []int{-1, -2, -2}, []int{2, -1, -1, -1}},
		{"of several", play("0w1 1w1 2w1 3r1"), []int{-2, -2, -2, 2}, []int{-1, 2, -1, -1}}, {"between several", play("0w1 3r1 1w1 3r1 2w1"), []int{-2, 0, -2, 2, -2}, []int{-1, 4, -1, -1}},
		{"of several of one", play("0w1 0w1 1r1 0w1 1r1"), []int{-2, -2, 1, -2, 3}, []int{-1, 3, -1, -1}}, {"of an item never written", play("0w0 1w1 2w2 0r3"), []int{-2, -2, -2, -1}, []int{0, 1, 2, -1}},
		{"of all items", play("0w3 1w2 2w1 3w0 0r0 1r1 2r2 3r3"), []int{-2, -2, -2, -2, 3, 2, 1, 0}, []int{3, 2, 1, 0}}, {"again and again", play("0w0 1r0 2r0 1r0 0r0"), []int{-2, 0, 0, 0, 0}, []int{0, -1, -1, -1}},
		{"from far ahead", slices.Concat(play("0w0"), each(14, "1w1"), play("2r0")), slices.Concat(repeated(-2, 15), []int{0}), []int{0, 14, -1, -1}},
	} {
		got, ok := impl.ReadsFrom(c.l)
		wantList(t, "ReadsFrom: "+c.what, got, ok, c.from)
		got, ok = impl.LastWrites(c.l)
		wantList(t, "LastWrites: "+c.what, got, ok, c.last)
	}
}

func TestSwapAt(t *testing.T) {
	done := 0
	for _, l := range goodPlays() {
		for k := -2; k <= len(l)+1; k++ {
			got, ok := impl.SwapAt(l, k)
			if k < 0 || k > len(l)-2 || l[k].Who == l[k+1].Who || wantedClash(l[k], l[k+1]) {
				refusedPlay(t, fmt.Sprint("SwapAt of ", l, k), got, ok)
				continue
			}
			done++
			wantPlay(t, fmt.Sprint("SwapAt of ", l, k), got, ok, slices.Concat(l[:k], []impl.Act{l[k+1], l[k]}, l[k+2:]))
		}
	}
	if done < 4000 {
		t.Errorf("%d neighbours were changed", done)
	}
}

func TestSwapAtPlainly(t *testing.T) {
	for _, c := range []struct {
		l    []impl.Act
		k    int
		want []impl.Act
	}{
		{play("0r0 1r0"), 0, play("1r0 0r0")}, {play("0w0 1w1"), 0, play("1w1 0w0")}, {play("0w0 1r1"), 0, play("1r1 0w0")}, {play("0r0 1w1"), 0, play("1w1 0r0")},
		{play("0w0 1w0 2r1"), 1, play("0w0 2r1 1w0")}, {play("3w3 0r0 1w3"), 0, play("0r0 3w3 1w3")}, {play("3w3 0r0 1w3"), 1, play("3w3 1w3 0r0")},
		{append(each(14, "0w0"), play("3r3 2r3")...), 14, append(each(14, "0w0"), play("2r3 3r3")...)}, {append(each(15, "0w0"), play("3r3")...), 14, append(each(14, "0w0"), play("3r3 0w0")...)},
	} {
		got, ok := impl.SwapAt(c.l, c.k)
		wantPlay(t, fmt.Sprint("SwapAt of ", c.l, c.k), got, ok, c.want)
	}
}

func TestSwapAtRefuses(t *testing.T) {
	for _, text := range []string{"0r0 0r0", "0r0 0r1", "0w0 0w1", "3w3 3r3", "0w0 1w0", "0w0 1r0", "0r0 1w0", "2w3 3w3", "3r3 0w3"} {
		got, ok := impl.SwapAt(play(text), 0)
		refusedPlay(t, "SwapAt of "+text, got, ok)
		got, ok = impl.SwapAt(slices.Concat(play("1r1 2r1"), play(text), play("1r1 2r1")), 2)
		refusedPlay(t, "SwapAt between others of "+text, got, ok)
	}
	free := each(4, "0r0 1r0 2r0 3r0")
	for many := range 17 {
		for _, k := range slices.Concat([]int{-2, -1, many - 1, many, many + 1, 16, 17}, extremes) {
			if k < 0 || k >= many-1 {
				got, ok := impl.SwapAt(free[:many], k)
				refusedPlay(t, fmt.Sprint("SwapAt of ", many, " acts at ", k), got, ok)
			}
		}
	}
	for _, l := range badPlays() {
		for _, k := range []int{-1, 0, 1, len(l) - 2, len(l) - 1} {
			got, ok := impl.SwapAt(l, k)
			refusedPlay(t, fmt.Sprint("SwapAt of ", l, k), got, ok)
		}
	}
}

// wantSame asks of two plays both ways round.
func wantSame(t *testing.T, what string, a []impl.Act, b []impl.Act, want bool) {
	t.Helper()
	got, ok := impl.SameEffect(a, b)
	wantTold(t, fmt.Sprint("SameEffect: ", what, a, b), got, ok, want)
	got, ok = impl.SameEffect(b, a)
	wantTold(t, fmt.Sprint("SameEffect: ", what, b, a), got, ok, want)
}

// All plays of a kind are held against each other, those of other lengths too.
func TestSameEffectOfAllPlays(t *testing.T) {
	for _, c := range []struct {
		most int
		acts []impl.Act
	}{{4, actsOf(2, 1)}, {2, actsOf(4, 2)}, {3, actsOf(3, 1)}, {5, play("0w0 1w0 2r0")}} {
		plays, alike := [][]impl.Act{}, 0
		for many := range c.most + 1 {
			plays = append(plays, playsOf(many, c.acts)...)
		}
		runs := []run{}
		for _, l := range plays {
			runs = append(runs, runOf(l))
		}
		for i, a := range plays {
			for k, b := range plays {
				want := runs[i].diary == runs[k].diary && runs[i].marks == runs[k].marks
				if got, ok := impl.SameEffect(a, b); got != want || !ok {
					t.Fatalf("SameEffect of %v and %v: got %v, %v; want %v, true", a, b, got, ok, want)
				}
				if want {
					alike++
				}
			}
		}
		// Each one is as it is itself.
		if alike <= len(plays) {
			t.Errorf("of %d plays no two are alike", len(plays))
		}
	}
}

// Longer ones are held against themselves one by one in each order, with neighbours changed, and with one act gone or another one.
func TestSameEffectOfLongPlays(t *testing.T) {
	alike, unlike := 0, 0
	for i, l := range slices.Concat(edgePlays(), madePlays(200), mixedPlays(60)) {
		others := [][]impl.Act{slices.Clone(l)}
		for _, order := range dealerOrders() {
			others = append(others, wantedOneByOne(l, order))
		}
		for k := range l {
			changed := slices.Clone(l)
			changed[k] = actsOf(4, 4)[(i*7+k*5)%32]
			swapped := slices.Clone(l)
			swapped[k], swapped[(k+1)%len(l)] = swapped[(k+1)%len(l)], swapped[k]
			others = append(others, changed, swapped, slices.Concat(l[:k], l[k+1:]))
		}
		for _, other := range others {
			want := wantedSame(l, other)
			wantSame(t, "of made plays ", l, other, want)
			if want {
				alike++
			} else {
				unlike++
			}
		}
	}
	if alike < 1000 || unlike < 1000 {
		t.Errorf("%d pairs alike were tried, and %d unlike", alike, unlike)
	}
}

func TestSameEffectPlainly(t *testing.T) {
	for _, c := range []struct {
		what string
		a, b []impl.Act
		want bool
	}{
		{"no acts", nil, []impl.Act{}, true}, {"the same play", play("0w0 1r0 1w0"), play("0w0 1r0 1w0"), true}, {"16 acts and the same", each(16, "3w3"), each(16, "3w3"), true},
		{"an act and none", play("0r0"), nil, false}, {"a write and none", play("0w0"), nil, false}, {"one read and two", play("0r0"), play("0r0 0r0"), false}, {"15 writes and 16", each(15, "0w0"), each(16, "0w0"), false},
		{"a read of 0 by 0 more", play("1w1 0r0"), play("1w1"), false}, {"another dealer", play("0r0"), play("1r0"), false}, {"another item", play("0r0"), play("0r1"), false}, {"a write, not a read", play("0w0"), play("0r0"), false},
		{"acts of one in another order", play("0r0 0r1"), play("0r1 0r0"), false}, {"writes of one in another order", play("0w0 0w1"), play("0w1 0w0"), false}, {"acts of one in another order among others", play("0r0 1r3 0r1"), play("0r1 1r3 0r0"), false},
		{"reads of two the other way", play("0r0 1r0"), play("1r0 0r0"), true}, {"writes of two items the other way", play("0w0 1w1"), play("1w1 0w0"), true}, {"acts of two among each other", play("0r0 1r1 0w2 1w3"), play("1r1 1w3 0r0 0w2"), true},
		{"a read behind and ahead of a write", play("0w0 1r0"), play("1r0 0w0"), false}, {"the last writes are not the same", play("0w0 1w0"), play("1w0 0w0"), false}, {"the last write of the last item", play("0w3 3w3"), play("3w3 0w3"), false},
		{"the first writes alone the other way", play("0w0 1w0 2w0"), play("1w0 0w0 2w0"), true}, {"so, but one reads between", play("0w0 1w0 3r0 2w0"), play("1w0 0w0 3r0 2w0"), false},
		{"from another write of the same one", play("1w0 1w0 0r0"), play("1w0 0r0 1w0"), false}, {"from another write of one, as the last one too", play("1w0 0r0 1w0 1w0"), play("1w0 1w0 0r0 1w0"), false},
		{"from the same write of one elsewhere", play("1w0 2w1 0r0"), play("2w1 1w0 0r0"), true}, {"from a write of one, behind a write of another item", play("1w1 1w0 0r0"), play("1w1 0r0 1w0"), false},
		{"from the second one's second, wherever it stands", play("0w0 1w0 1w1 1w0 2r0 3r1"), play("0w0 1w0 1w1 1w0 3r1 2r0"), true}, {"from its own, or the other one's", play("1w0 0w0 0r0 2w0"), play("0w0 1w0 0r0 2w0"), false},
		{"from none, or its own", play("0w0 1w0 1r0 0r1"), play("1w0 1r0 0w0 0r1"), false}, {"two read from one, or one of them from none", play("0w0 1r0 2r0"), play("1r0 0w0 2r0"), false},
		{"no order of clashes, and yet the same", play("0r0 1w0 0w0 2w0"), play("0r0 0w0 1w0 2w0"), true}, {"a last write that nobody reads", play("0w0 1r0 0w0"), play("0w0 0w0 1r0"), false},
	} {
		wantSame(t, c.what+" ", c.a, c.b, c.want)
	}
}

func TestBadPlaysAreRefused(t *testing.T) {
	for _, bad := range badPlays() {
		what := fmt.Sprint(" of ", bad)
		got, ok := impl.ConflictsOf(bad)
		refusedList(t, "ConflictsOf"+what, got, ok)
		got, ok = impl.SerialOf(bad)
		refusedList(t, "SerialOf"+what, got, ok)
		got, ok = impl.ReadsFrom(bad)
		refusedList(t, "ReadsFrom"+what, got, ok)
		got, ok = impl.LastWrites(bad)
		refusedList(t, "LastWrites"+what, got, ok)
		for _, other := range [][]impl.Act{bad, nil, play("0r0"), each(16, "3w3")} {
			told, ok := impl.SameEffect(bad, other)
			refusedTold(t, "SameEffect"+what, told, ok)
			told, ok = impl.SameEffect(other, bad)
			refusedTold(t, "SameEffect behind another"+what, told, ok)
		}
	}
}
