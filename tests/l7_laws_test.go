package tests

import (
	"fmt"
	"slices"
	"testing"

	"loop.example/g00641/impl"
)

func serialOf(t *testing.T, l []impl.Act) ([]int, bool) {
	t.Helper()
	order, ok := impl.SerialOf(l)
	if ok && !slices.Equal(onceEachOf(slices.Clone(order)), upTo(4)) {
		t.Fatalf("SerialOf of %v tells %v", l, order)
	}
	return order, ok
}

func oneByOne(t *testing.T, l []impl.Act, order []int) []impl.Act {
	t.Helper()
	got, ok := impl.OneByOne(l, order)
	if !ok || !impl.GoodPlay(got) {
		t.Fatalf("OneByOne of %v, %v: %v, %v", l, order, got, ok)
	}
	return got
}

func sameEffect(t *testing.T, a []impl.Act, b []impl.Act) bool {
	t.Helper()
	told, ok := impl.SameEffect(a, b)
	if !ok {
		t.Fatalf("SameEffect refuses %v and %v", a, b)
	}
	return told
}

func conflictsOf(t *testing.T, l []impl.Act) []int {
	t.Helper()
	conflicts, ok := impl.ConflictsOf(l)
	if !ok || len(conflicts) != 16 {
		t.Fatalf("ConflictsOf of %v: %v, %v", l, conflicts, ok)
	}
	return conflicts
}

// Promise 7: a play for which SerialOf tells true does what one by one in that order does.
func TestPlaysWithAnOrderAreAsGoodAsOneByOne(t *testing.T) {
	most, mixed := 0, 0
	for _, l := range goodPlays() {
		order, ok := serialOf(t, l)
		if !ok {
			continue
		}
		one := oneByOne(t, l, order)
		if !sameEffect(t, l, one) || !sameEffect(t, one, l) {
			t.Errorf("%v is not as good as one by one in the order %v: %v", l, order, one)
		}
		// And so without SameEffect: by what each one wrote down.
		if !wantedSame(l, one) {
			t.Errorf("%v does not what %v does", l, one)
		}
		if !slices.Equal(l, one) {
			most, mixed = max(most, len(l)), mixed+1
		}
	}
	if most < 16 || mixed < 500 {
		t.Errorf("%d plays of at most %d acts were tried", mixed, most)
	}
}

// Promise 7: so it does in every order that no clash stands against.
func TestPlaysAreAsGoodInEachOrderThatFits(t *testing.T) {
	for _, l := range slices.Concat(edgePlays(), madePlays(300), mixedPlays(100)) {
		first, ok := serialOf(t, l)
		fitting := slices.DeleteFunc(dealerOrders(), func(order []int) bool { return !keepsTo(l, order) })
		if ok != (len(fitting) > 0) || ok && !slices.Equal(first, fitting[0]) {
			t.Errorf("SerialOf of %v: %v, %v, of the orders %v", l, first, ok, fitting)
		}
		for _, order := range fitting {
			if one := oneByOne(t, l, order); !sameEffect(t, l, one) {
				t.Errorf("%v is not as good as one by one in the order %v: %v", l, order, one)
			}
		}
	}
}

// Promise 7: two neighbours that do not clash may change places.
func TestNeighboursThatDoNotClashMayChangePlaces(t *testing.T) {
	done := 0
	for _, l := range goodPlays() {
		for k := range l {
			swapped, ok := impl.SwapAt(l, k)
			if !ok {
				continue
			}
			done++
			if !sameEffect(t, l, swapped) || !sameEffect(t, swapped, l) || !wantedSame(l, swapped) {
				t.Errorf("%v does not what %v does, changed at %d", l, swapped, k)
			}
			wantList(t, fmt.Sprint("the clashes of ", l, " changed at ", k), conflictsOf(t, swapped), true, conflictsOf(t, l))
			back, ok := impl.SwapAt(swapped, k)
			wantPlay(t, "changed twice", back, ok, l)
		}
	}
	if done < 4000 {
		t.Errorf("%d neighbours were changed", done)
	}
}

// By such changes alone a play with an order becomes one by one: those out of order never clash.
func TestPlaysWithAnOrderAreChangedToOneByOne(t *testing.T) {
	many := 0
	for _, given := range goodPlays() {
		order, ok := serialOf(t, given)
		if !ok {
			continue
		}
		l := given
		for k := 0; k+1 < len(l); {
			if slices.Index(order, l[k].Who) <= slices.Index(order, l[k+1].Who) {
				k++
				continue
			}
			swapped, ok := impl.SwapAt(l, k)
			if !ok {
				t.Fatalf("SwapAt of %v refuses %d, out of the order %v", l, k, order)
			}
			l, k, many = swapped, max(k-1, 0), many+1
		}
		wantPlay(t, fmt.Sprint("OneByOne of ", given, order), oneByOne(t, given, order), true, l)
	}
	if many < 3000 {
		t.Errorf("%d neighbours were changed", many)
	}
}

// One by one in any order no two are ahead of each other, and the order that is told is as good.
func TestOneByOneHasAnOrder(t *testing.T) {
	for _, l := range slices.Concat(edgePlays(), madePlays(200)) {
		for _, order := range dealerOrders() {
			one := oneByOne(t, l, order)
			told, ok := serialOf(t, one)
			if !ok || !keepsTo(one, order) || !keepsTo(one, told) {
				t.Fatalf("SerialOf of %v, one by one by %v: %v, %v", one, order, told, ok)
			}
			if !sameEffect(t, one, oneByOne(t, one, told)) {
				t.Errorf("%v is not as good as by %v", one, told)
			}
			wantPlay(t, "one by one twice", oneByOne(t, one, order), true, one)
		}
	}
}

// Just where SerialOf tells an order all clashes stay as they were one by one; where it tells none they do in no order.
func TestClashesStayJustWhereThereIsAnOrder(t *testing.T) {
	for _, l := range slices.Concat(edgePlays(), madePlays(200), mixedPlays(60)) {
		conflicts := conflictsOf(t, l)
		told, ok := serialOf(t, l)
		stay := false
		for _, order := range dealerOrders() {
			stays := slices.Equal(conflictsOf(t, oneByOne(t, l, order)), conflicts)
			if ok && slices.Equal(order, told) && !stays {
				t.Errorf("the clashes of %v do not stay by %v", l, order)
			}
			stay = stay || stays
		}
		if stay != ok {
			t.Errorf("the clashes of %v stay is %v, and it has an order is %v", l, stay, ok)
		}
	}
}

// Some plays do what one by one does though SerialOf tells none: it asks for clashes, not for what comes of them.
func TestPlaysWithoutAnOrderMayBeAsGood(t *testing.T) {
	l := play("0r0 1w0 0w0 2w0")
	order, ok := impl.SerialOf(l)
	refusedList(t, "SerialOf of writes that nobody reads", order, ok)
	if !sameEffect(t, l, oneByOne(t, l, upTo(4))) {
		t.Errorf("%v is not as good as one by one", l)
	}
}

// What SameEffect tells puts plays into groups: of one group are all that have the same as one of them.
func TestSameEffectPutsPlaysIntoGroups(t *testing.T) {
	plays := slices.Concat(playsOf(3, actsOf(2, 1)), playsOf(2, actsOf(2, 2)), playsOf(4, play("0w0 1w0 2r0")))
	for _, a := range plays {
		if !sameEffect(t, a, a) {
			t.Errorf("%v has not its own effect", a)
		}
		group := slices.DeleteFunc(slices.Clone(plays), func(b []impl.Act) bool { return !sameEffect(t, a, b) })
		for _, b := range group {
			for _, c := range group {
				if !sameEffect(t, b, c) {
					t.Errorf("%v has the effect of %v and %v, which have not the same", a, b, c)
				}
			}
		}
	}
}

// What comes of ReadsFrom, LastWrites and the acts of each is what SameEffect asks for.
func TestSameEffectIsToldByReadsAndLastWrites(t *testing.T) {
	for _, l := range slices.Concat(edgePlays(), madePlays(120), mixedPlays(40)) {
		for _, order := range dealerOrders() {
			one := oneByOne(t, l, order)
			want := slices.Equal(namedReads(t, l), namedReads(t, one)) && slices.Equal(namedLasts(t, l), namedLasts(t, one))
			if got := sameEffect(t, l, one); got != want {
				t.Errorf("SameEffect of %v and %v: got %v; want %v", l, one, got, want)
			}
		}
	}
}

// nameOf tells an act apart by whose it is and its number among theirs, -1 for none.
func nameOf(l []impl.Act, at int) int {
	if at < 0 {
		return at
	}
	number := 0
	for _, a := range l[:at] {
		if a.Who == l[at].Who {
			number++
		}
	}
	return 16*l[at].Who + number
}

// namedReads tells for each dealer's acts in order what they read from, by names.
func namedReads(t *testing.T, l []impl.Act) []int {
	t.Helper()
	from, ok := impl.ReadsFrom(l)
	if !ok || len(from) != len(l) {
		t.Fatalf("ReadsFrom of %v: %v, %v", l, from, ok)
	}
	reads := repeated(-3, 64)
	for i, at := range from {
		reads[nameOf(l, i)] = nameOf(l, at)
	}
	return reads
}

func namedLasts(t *testing.T, l []impl.Act) []int {
	t.Helper()
	last, ok := impl.LastWrites(l)
	if !ok || len(last) != 4 {
		t.Fatalf("LastWrites of %v: %v, %v", l, last, ok)
	}
	for item, at := range last {
		last[item] = nameOf(l, at)
	}
	return last
}
