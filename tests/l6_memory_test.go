package tests

import (
	"slices"
	"testing"

	"loop.example/g00641/impl"
)

// An answer of chapter 6, whichever function told it.
type answer6 struct {
	lists [][]int
	d     impl.Dep
	rs    []impl.Relation
	told  bool
	ok    bool
}

// What the functions of chapter 6 are asked of.
type asked6 struct {
	l     []impl.Dep
	a, b  []int
	d     impl.Dep
	parts [][]int
	rs    []impl.Relation
}

type call6 struct {
	name string
	ask  func(a asked6) answer6
}

func toldOf6(told bool, ok bool) answer6              { return answer6{told: told, ok: ok} }
func wholeOf6(r impl.Relation, ok bool) answer6       { return answer6{rs: []impl.Relation{r}, ok: ok} }
func relationsOf6(l []impl.Relation, ok bool) answer6 { return answer6{rs: l, ok: ok} }

// callsOf6 are all functions of chapter 6, of so many columns.
func callsOf6(cols int) []call6 {
	return []call6{
		{"IsLossless", func(a asked6) answer6 { return toldOf6(impl.IsLossless(cols, a.l, a.a, a.b)) }},
		{"BadIn", func(a asked6) answer6 {
			d, ok := impl.BadIn(cols, a.l, a.a)
			return answer6{d: d, ok: ok}
		}},
		{"SplitBy", func(a asked6) answer6 {
			first, second, ok := impl.SplitBy(cols, a.a, a.d)
			return answer6{lists: [][]int{first, second}, ok: ok}
		}},
		{"SplitAll", func(a asked6) answer6 {
			lists, ok := impl.SplitAll(cols, a.l)
			return answer6{lists: lists, ok: ok}
		}},
		{"TakeApart", func(a asked6) answer6 { return relationsOf6(impl.TakeApart(a.rs[0], a.parts)) }},
		{"TakeApart into the same", func(a asked6) answer6 {
			return relationsOf6(impl.TakeApart(a.rs[0], [][]int{a.rs[0].Names, a.a, a.a, a.rs[0].Names}))
		}},
		{"PutTogether", func(a asked6) answer6 { return wholeOf6(impl.PutTogether(a.rs)) }},
		{"PutTogether one", func(a asked6) answer6 { return wholeOf6(impl.PutTogether(a.rs[:1])) }},
		{"PutTogether the same", func(a asked6) answer6 { return wholeOf6(impl.PutTogether([]impl.Relation{a.rs[0], a.rs[0]})) }},
		{"IsKept", func(a asked6) answer6 { return toldOf6(impl.IsKept(cols, a.l, a.a, a.d)) }},
	}
}

func sameAnswer6(a answer6, b answer6) bool {
	return slices.EqualFunc(a.lists, b.lists, sameTuple) && sameDep(a.d, b.d) && sameRelations(a.rs, b.rs) && a.told == b.told && a.ok == b.ok
}

func copyAnswer6(a answer6) answer6 {
	return answer6{lists: copyTuples(a.lists), d: copyDep(a.d), rs: copyRelations(a.rs), told: a.told, ok: a.ok}
}

func sameAsked6(a asked6, b asked6) bool {
	return sameDeps(a.l, b.l) && slices.Equal(a.a, b.a) && slices.Equal(a.b, b.b) && sameDep(a.d, b.d) &&
		slices.EqualFunc(a.parts, b.parts, sameTuple) && sameRelations(a.rs, b.rs)
}

func copyAsked6(a asked6) asked6 {
	return asked6{copyDeps(a.l), slices.Clone(a.a), slices.Clone(a.b), copyDep(a.d), copyTuples(a.parts), copyRelations(a.rs)}
}

// hidingAsked6 lays all lists into memory that goes on behind them.
func hidingAsked6(a asked6, behind int) asked6 {
	// As chapter 5 lays its own; the parts lie as the tuples of a relation do.
	common := hidingAsked(asked5{l: a.l, d: a.d, some: a.a, r: relation(a.b, a.parts...)}, behind)
	rs := []impl.Relation{}
	for _, r := range a.rs {
		rs = append(rs, hidingRelation(r, behind))
	}
	rs = append(rs, hidingRelation(relation([]int{behind}, []int{behind}), behind))
	return asked6{common.l, common.some, common.r.Names, common.d, common.r.Tuples, rs[:len(a.rs)]}
}

// wholeAsked6 copies all that lies in the memory of a, behind its lengths too.
func wholeAsked6(a asked6) asked6 {
	common := wholeAsked(asked5{l: a.l, d: a.d, some: a.a, r: relation(a.b, a.parts...)})
	all := asked6{common.l, common.some, common.r.Names, common.d, common.r.Tuples, nil}
	for _, r := range a.rs[:cap(a.rs)] {
		all.rs = append(all.rs, wholeRelation(r))
	}
	return all
}

func spoilRelations(l []impl.Relation) {
	l = l[:cap(l)]
	for i := range l {
		spoilRelation(l[i])
		l[i] = relation([]int{-404})
	}
}

func spoilLists(l [][]int) {
	l = l[:cap(l)]
	for i := range l {
		spoilList(l[i])
		l[i] = []int{-404}
	}
}

func spoilAnswer6(a answer6) {
	spoilLists(a.lists)
	spoilDeps([]impl.Dep{a.d})
	spoilRelations(a.rs)
}

func spoilAsked6(a asked6) {
	spoilDeps(a.l)
	spoilDeps([]impl.Dep{a.d})
	spoilList(a.a)
	spoilList(a.b)
	spoilLists(a.parts)
	spoilRelations(a.rs)
}

// memoryParts are lists of parts, good ones and some that are not, by the names 0 to 3.
func memoryParts() [][][]int {
	return [][][]int{
		nil, {{}}, {nil, nil}, {{0}}, {{0, 1}, {1, 2}, {3}}, {upTo(4), upTo(4), {}}, {{0, 2}, {2, 0}}, {{1}, {9}},
		slices.Repeat([][]int{{1, 3}}, 10), slices.Repeat([][]int{{1, 3}}, 11), {{3}, {1}, {0, 1, 2}},
	}
}

// memoryJoins are lists of relations, good ones and some that are not.
func memoryJoins() [][]impl.Relation {
	four := relation(upTo(4), []int{0, 0, 1, 1}, []int{0, 1, 1, 1}, []int{1, 0, 0, 2})
	return [][]impl.Relation{
		{{}}, {relation(nil, []int{})}, {four}, {four, four}, {relation(upTo(4))}, {relation(upTo(4)), four}, {relation(upTo(4), manyTuples(60, 4)...)},
		{relation([]int{0, 1}, []int{0, 1}, []int{1, 0}), relation([]int{1, 3}, []int{0, 5}, []int{0, 6}, []int{1, 7})}, {ofNames(6, 0), ofNames(10, 3)}, {ofNames(6, 0), ofNames(11, 3)},
		{relation([]int{1, 0}, []int{0, 1}), four}, {four, relation([]int{1, 0}, []int{0, 1})}, slices.Repeat([]impl.Relation{four}, 10), slices.Repeat([]impl.Relation{four}, 11),
		{four, relation(nil, []int{}), ofNames(2, 20)}, {ofNames(1, 0, 1, 2, 3), ofNames(1, 4, 5, 6)},
	}
}

// eachOf6 asks check of each call of chapter 6 at sentences, parts and relations, good ones and others.
func eachOf6(check func(c call6, a asked6)) {
	parts, joins := memoryParts(), memoryJoins()
	pairs := [][2][]int{{nil, nil}, {upTo(4), nil}, {{0, 1}, {1, 2, 3}}, {{1, 3}, {0, 2}}, {upTo(4), upTo(4)}, {{2, 1}, upTo(4)}, {{0, 9}, upTo(4)}, {{0, 1, 2}, {0, 3}}}
	turn := 0
	for _, l := range memoryDeps() {
		for _, d := range arrows(">", ">0", "0>", "0>1", "3>01", "1>3", "01>23", "0>0", "10>", "0>7") {
			for _, pair := range pairs {
				a := asked6{l, pair[0], pair[1], d, parts[turn%len(parts)], joins[turn%len(joins)]}
				turn++
				for _, cols := range []int{4, 2, 6} {
					for _, c := range callsOf6(cols) {
						check(c, a)
					}
				}
			}
		}
	}
}

// All that is asked of memory is asked of answers that are told true, of each call.
func TestMemoryOfChapter6IsAskedOfAnswers(t *testing.T) {
	good, more := map[string]int{}, map[string]int{}
	eachOf6(func(c call6, a asked6) {
		if got := c.ask(a); got.ok {
			good[c.name]++
			more[c.name] += len(listsIn6(got))
		}
	})
	for _, c := range callsOf6(4) {
		if good[c.name] < 40 || more[c.name] < good[c.name] {
			t.Errorf("%s: %d answers of %d lists", c.name, good[c.name], more[c.name])
		}
	}
}

// Promise 19: nothing is written into an argument, and what lies behind a length is not read.
func TestListsOfChapter6StayAsTheyWere(t *testing.T) {
	eachOf6(func(c call6, a asked6) {
		want := c.ask(copyAsked6(a))
		for _, behind := range []int{0, 3, 5000, -1} {
			laid := hidingAsked6(a, behind)
			before := wholeAsked6(laid)
			got := c.ask(laid)
			if !sameAnswer6(got, want) {
				t.Errorf("%s of %v hangs on %d behind it: %v, not %v", c.name, a, behind, got, want)
			}
			if !sameAsked6(wholeAsked6(laid), before) || !sameAsked6(laid, a) {
				t.Fatalf("%s made %v of %v", c.name, wholeAsked6(laid), before)
			}
		}
	})
}

// Promise 19: an answer is new memory; written over, it changes no argument, and it follows none.
func TestAnswersOfChapter6ShareNoneWithArguments(t *testing.T) {
	eachOf6(func(c call6, a asked6) {
		laid := hidingAsked6(a, 5)
		before := wholeAsked6(laid)
		got := c.ask(laid)
		want := copyAnswer6(got)
		second := c.ask(laid)
		spoilAnswer6(got)
		if !sameAsked6(wholeAsked6(laid), before) {
			t.Fatalf("%s shares memory with %v", c.name, a)
		}
		spoilAsked6(laid)
		if !sameAnswer6(second, want) {
			t.Errorf("%s of %v: its second answer became %v, not %v", c.name, a, second, want)
		}
	})
}

// listsIn6 are all lists of numbers of an answer.
func listsIn6(a answer6) [][]int {
	all := append(slices.Clone(a.lists), a.d.From, a.d.To)
	for _, r := range a.rs {
		all = append(append(all, r.Names), r.Tuples...)
	}
	return all
}

// listsBehind6 are those that lie behind the lengths of an answer's lists of lists.
func listsBehind6(a answer6) [][]int {
	behind := slices.Clone(a.lists[len(a.lists):cap(a.lists)])
	for _, r := range a.rs {
		behind = append(behind, r.Tuples[len(r.Tuples):cap(r.Tuples)]...)
	}
	for _, r := range a.rs[len(a.rs):cap(a.rs)] {
		behind = append(append(behind, r.Names), r.Tuples...)
	}
	return behind
}

// Promise 19: no two lists of one answer share memory, and nothing lies behind them.
func TestListsOfAnAnswerOfChapter6ShareNone(t *testing.T) {
	eachOf6(func(c call6, a asked6) {
		wantOwnListsOf6(t, c.name, c.ask(a))
	})
}

func wantOwnListsOf6(t *testing.T, what string, a answer6) {
	t.Helper()
	for _, l := range listsBehind6(a) {
		if cap(l) != 0 {
			t.Errorf("%s hands out %v behind its lists", what, l)
		}
	}
	lists := listsIn6(a)
	// Each list is written over with a number of its own: one that shares memory with another shows the other's.
	for i, l := range lists {
		for _, n := range l[len(l):cap(l)] {
			refusedInt(t, what+" behind its answer", n, false)
		}
		l = l[:cap(l)]
		for k := range l {
			l[k] = 5000 + i
		}
	}
	for i, l := range lists {
		for _, n := range l[:cap(l)] {
			if n != 5000+i {
				t.Fatalf("%s: lists %d and %d share memory", what, i, n-5000)
			}
		}
	}
	wantOwnTuples(t, what, a.rs)
}

// wantOwnTuples asks that no two relations share the list that has their tuples.
func wantOwnTuples(t *testing.T, what string, l []impl.Relation) {
	t.Helper()
	for i, r := range l {
		tuples := r.Tuples[:cap(r.Tuples)]
		for k := range tuples {
			tuples[k] = []int{i}
		}
	}
	for i, r := range l {
		for _, tuple := range r.Tuples[:cap(r.Tuples)] {
			if tuple[0] != i {
				t.Fatalf("%s: the tuples of relations %d and %d share memory", what, i, tuple[0])
			}
		}
	}
}

// Lists of an argument may share memory among themselves, and one list may be handed in twice: an answer's do not.
func TestAnswersOfPartsThatShareMemory(t *testing.T) {
	line := upTo(6)
	a := asked6{
		l: []impl.Dep{dep(line[0:1], line[0:2]), dep(line[1:2], line[1:3]), dep(line[1:2], line[1:3]), dep(line[3:4], line[3:5])},
		a: line, b: line[2:6], d: dep(line[2:4], line[0:2]), parts: [][]int{line[0:2], line[0:2], line[1:4], line[0:4]},
		rs: []impl.Relation{relation(line[0:4], line[0:4], line[1:5], line[2:6]), relation(line[0:4], line[0:4], line[1:5]), relation(line[1:3], line[1:3])},
	}
	for _, c := range callsOf6(6) {
		if c.name == "TakeApart into the same" {
			a.a = line[1:3]
		} else {
			a.a = line
		}
		got := c.ask(a)
		want := c.ask(copyAsked6(a))
		if !sameAnswer6(got, want) || !got.ok {
			t.Errorf("%s of lists that share memory: %v, not %v", c.name, got, want)
		}
		wantOwnListsOf6(t, c.name, got)
		if !slices.Equal(line, upTo(6)) {
			t.Fatalf("%s: what the lists share became %v", c.name, line)
		}
	}
}

// Parts, names and relations behind a length are none: they neither spoil a list nor mend it.
func TestPartsBehindALengthAreNone(t *testing.T) {
	none, _ := hiding(nil, 0, 1, 2)
	two, _ := hiding([]int{0, 1}, 2, 3)
	told, ok := impl.IsLossless(3, nil, two, none)
	refusedTold(t, "IsLossless of parts with the last column behind them", told, ok)
	d, ok := impl.BadIn(3, arrows("0>1"), two)
	refusedDep(t, "BadIn of a part with a column behind it", d, ok)
	if got := halvesBy(3, two, dep(none, []int{1})); !sameHalves(got, halves{[]int{1}, []int{0}, true}) {
		t.Errorf("SplitBy of a part with columns behind it: %v", got)
	}
	refusedSplit(t, 3, two, arrow("0>2"))
	lists, ok := impl.SplitAll(3, arrows("0>12", "1>2")[:1])
	wantListsOf(t, "SplitAll with a sentence behind the length", lists, ok, [][]int{upTo(3)})
	told, ok = impl.IsKept(3, nil, two, arrow("2>2"))
	refusedTold(t, "IsKept of a column behind the part", told, ok)
	r := ofNames(2, 0, 1, 2)
	rs, ok := impl.TakeApart(r, [][]int{two, {9}}[:1])
	wantRelations(t, "TakeApart with a list behind the length", rs, ok, []impl.Relation{ofNames(2, 0, 1)})
	rs, ok = impl.TakeApart(r, [][]int{two}[:0])
	refusedRelations(t, "TakeApart into a list behind the length alone", rs, ok)
	whole, ok := impl.PutTogether([]impl.Relation{r, relation([]int{9, 9})}[:1])
	wantRelation(t, "PutTogether with a relation behind the length", whole, ok, r)
	whole, ok = impl.PutTogether([]impl.Relation{r}[:0])
	refusedRelation(t, "PutTogether of a relation behind the length alone", whole, ok)
}
