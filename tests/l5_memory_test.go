package tests

import (
	"slices"
	"testing"

	"loop.example/g00641/impl"
)

// An answer of chapter 5, whichever function told it.
type answer5 struct {
	list  []int
	lists [][]int
	r     impl.Relation
	deps  []impl.Dep
	told  bool
	ok    bool
}

// What the functions of chapter 5 are asked of.
type asked5 struct {
	l    []impl.Dep
	d    impl.Dep
	some []int
	r    impl.Relation
}

type call5 struct {
	name string
	ask  func(a asked5) answer5
}

func ofTold(told bool, ok bool) answer5 { return answer5{told: told, ok: ok} }

// callsOf5 are all functions of chapter 5, of so many columns.
func callsOf5(cols int) []call5 {
	return []call5{
		{"GoodDeps", func(a asked5) answer5 { return answer5{ok: impl.GoodDeps(cols, a.l)} }},
		{"ClosureOf", func(a asked5) answer5 {
			list, ok := impl.ClosureOf(cols, a.l, a.some)
			return answer5{list: list, ok: ok}
		}},
		{"Implies", func(a asked5) answer5 { return ofTold(impl.Implies(cols, a.l, a.d)) }},
		{"KeysFor", func(a asked5) answer5 {
			lists, ok := impl.KeysFor(cols, a.l)
			return answer5{lists: lists, ok: ok}
		}},
		{"HoldsIn", func(a asked5) answer5 { return ofTold(impl.HoldsIn(a.r, a.d)) }},
		{"WitnessFor", func(a asked5) answer5 {
			r, ok := impl.WitnessFor(cols, a.l, a.d)
			return answer5{r: r, ok: ok}
		}},
		{"CoverOf", func(a asked5) answer5 {
			deps, ok := impl.CoverOf(cols, a.l)
			return answer5{deps: deps, ok: ok}
		}},
	}
}

func sameAnswer5(a answer5, b answer5) bool {
	return slices.Equal(a.list, b.list) && slices.EqualFunc(a.lists, b.lists, sameTuple) && sameRelation(a.r, b.r) &&
		sameDeps(a.deps, b.deps) && a.told == b.told && a.ok == b.ok
}

func copyAnswer5(a answer5) answer5 {
	return answer5{list: slices.Clone(a.list), lists: copyTuples(a.lists), r: copyRelation(a.r), deps: copyDeps(a.deps), told: a.told, ok: a.ok}
}

func sameAsked5(a asked5, b asked5) bool {
	return sameDeps(a.l, b.l) && sameDep(a.d, b.d) && slices.Equal(a.some, b.some) && sameRelation(a.r, b.r)
}

func copyAsked5(a asked5) asked5 {
	return asked5{l: copyDeps(a.l), d: copyDep(a.d), some: slices.Clone(a.some), r: copyRelation(a.r)}
}

func hidingDep(d impl.Dep, behind int) impl.Dep {
	from, _ := hiding(d.From, behind, behind+1)
	to, _ := hiding(d.To, behind, behind+1)
	return dep(from, to)
}

// hidingAsked lays all lists into memory that goes on behind them.
func hidingAsked(a asked5, behind int) asked5 {
	l := []impl.Dep{}
	for _, d := range a.l {
		l = append(l, hidingDep(d, behind))
	}
	for range 2 {
		l = append(l, hidingDep(dep([]int{behind}, []int{behind + 1}), behind))
	}
	some, _ := hiding(a.some, behind, behind+1)
	return asked5{l: l[:len(a.l)], d: hidingDep(a.d, behind), some: some, r: hidingRelation(a.r, behind)}
}

func wholeDep(d impl.Dep) impl.Dep {
	return dep(slices.Clone(d.From[:cap(d.From)]), slices.Clone(d.To[:cap(d.To)]))
}

// wholeAsked copies all that lies in the memory of a, behind its lengths too.
func wholeAsked(a asked5) asked5 {
	all := asked5{d: wholeDep(a.d), some: slices.Clone(a.some[:cap(a.some)]), r: wholeRelation(a.r)}
	for _, d := range a.l[:cap(a.l)] {
		all.l = append(all.l, wholeDep(d))
	}
	return all
}

func spoilDeps(l []impl.Dep) {
	l = l[:cap(l)]
	for i := range l {
		spoilList(l[i].From)
		spoilList(l[i].To)
		l[i] = dep([]int{-404}, []int{-404})
	}
}

func spoilAnswer5(a answer5) {
	spoilList(a.list)
	lists := a.lists[:cap(a.lists)]
	for i := range lists {
		spoilList(lists[i])
		lists[i] = nil
	}
	spoilRelation(a.r)
	spoilDeps(a.deps)
}

func spoilAsked5(a asked5) {
	spoilDeps(a.l)
	spoilDeps([]impl.Dep{a.d})
	spoilList(a.some)
	spoilRelation(a.r)
}

// memoryDeps are sentences of up to four columns, good ones and some that are not.
func memoryDeps() [][]impl.Dep {
	return [][]impl.Dep{
		nil, arrows(">"), arrows(">0"), arrows(">0123"), arrows("0>1", "1>0"), arrows("2>3", "1>2", "0>1"), arrows("0>13", "1>2", "3>0", "12>3", "0>"),
		arrows("0>1", "0>1", "12>", "1>2", "03>2", ">", "2>3", "3>0"), slices.Repeat(arrows("0>1"), 9), arrows("10>2"), arrows("0>1", "0>9"),
	}
}

// eachOf5 asks check of each call of chapter 5 at sentences, columns and relations, good ones and others.
func eachOf5(check func(c call5, a asked5)) {
	relations := []impl.Relation{
		{}, relation(nil, []int{}), relation(upTo(4)), relation(upTo(4), []int{0, 0, 1, 1}, []int{0, 1, 1, 1}, []int{1, 0, 0, 2}),
		relation([]int{0, 1}, []int{0, 1}, []int{1, 0}), relation([]int{1, 0}, []int{0, 1}), relation(upTo(4), manyTuples(60, 4)...),
	}
	for i, l := range memoryDeps() {
		for k, d := range arrows(">", ">0", "0>", "0>1", "0>3", "3>01", "0123>0123", "10>", "0>7") {
			for m, some := range [][]int{nil, {0}, {1, 3}, upTo(4), {2, 1}, {9}} {
				a := asked5{l, d, some, relations[(i+k+m)%len(relations)]}
				for _, cols := range []int{4, 2, 6} {
					for _, c := range callsOf5(cols) {
						check(c, a)
					}
				}
			}
		}
	}
}

// Promise 19: nothing is written into an argument, and what lies behind a length is not read.
func TestListsOfChapter5StayAsTheyWere(t *testing.T) {
	eachOf5(func(c call5, a asked5) {
		want := c.ask(copyAsked5(a))
		for _, behind := range []int{0, 2, 3, 5, 5000, -1} {
			laid := hidingAsked(a, behind)
			before := wholeAsked(laid)
			got := c.ask(laid)
			if !sameAnswer5(got, want) {
				t.Errorf("%s of %v hangs on %d behind it: %v, not %v", c.name, a, behind, got, want)
			}
			if !sameAsked5(wholeAsked(laid), before) || !sameAsked5(laid, a) {
				t.Fatalf("%s made %v of %v", c.name, wholeAsked(laid), before)
			}
		}
	})
}

// Promise 19: an answer is new memory; written over, it changes no argument, and it follows none.
func TestAnswersOfChapter5ShareNoneWithArguments(t *testing.T) {
	eachOf5(func(c call5, a asked5) {
		laid := hidingAsked(a, 5)
		before := wholeAsked(laid)
		got := c.ask(laid)
		want := copyAnswer5(got)
		second := c.ask(laid)
		spoilAnswer5(got)
		if !sameAsked5(wholeAsked(laid), before) {
			t.Fatalf("%s shares memory with %v", c.name, a)
		}
		spoilAsked5(laid)
		if !sameAnswer5(second, want) {
			t.Errorf("%s of %v: its second answer became %v, not %v", c.name, a, second, want)
		}
	})
}

// listsIn are all lists of numbers of an answer.
func listsIn(a answer5) [][]int {
	all := slices.Concat([][]int{a.list, a.r.Names}, a.lists, a.r.Tuples)
	for _, d := range a.deps {
		all = append(all, d.From, d.To)
	}
	return all
}

// Promise 19: no two lists of one answer share memory, and nothing lies behind them.
func TestListsOfAnAnswerOfChapter5ShareNone(t *testing.T) {
	eachOf5(func(c call5, a asked5) {
		wantOwnListsOf5(t, c.name, c.ask(a))
	})
}

func wantOwnListsOf5(t *testing.T, what string, a answer5) {
	t.Helper()
	for _, l := range append(slices.Clone(a.lists[len(a.lists):cap(a.lists)]), a.r.Tuples[len(a.r.Tuples):cap(a.r.Tuples)]...) {
		if len(l) != 0 || cap(l) != 0 {
			t.Errorf("%s hands out %v behind its lists", what, l)
		}
	}
	for _, d := range a.deps[len(a.deps):cap(a.deps)] {
		if cap(d.From) != 0 || cap(d.To) != 0 {
			t.Errorf("%s hands out %v behind its sentences", what, d)
		}
	}
	lists := listsIn(a)
	for i := range lists {
		lists[i] = lists[i][:cap(lists[i])]
	}
	for i, l := range listsIn(a) {
		for _, n := range lists[i][len(l):] {
			refusedInt(t, what+" behind its answer", n, false)
		}
		before := copyTuples(lists)
		spoilList(l)
		before[i] = slices.Clone(lists[i])
		if !slices.EqualFunc(lists, before, sameTuple) {
			t.Fatalf("%s: lists share memory: %v", what, lists)
		}
	}
}

// Lists of an argument may share memory among themselves: an answer's do not.
func TestAnswersOfSentencesThatShareMemory(t *testing.T) {
	line := upTo(6)
	a := asked5{
		l: []impl.Dep{dep(line[0:1], line[0:2]), dep(line[1:2], line[1:3]), dep(line[1:2], line[1:3]), dep(line[3:5], line[3:6])},
		d: dep(line[2:4], line[0:4]), some: line[0:1], r: relation(line[0:4], line[0:4], line[1:5], line[2:6]),
	}
	for _, c := range callsOf5(6) {
		got := c.ask(a)
		want := c.ask(copyAsked5(a))
		if !sameAnswer5(got, want) || !got.ok {
			t.Errorf("%s of lists that share memory: %v, not %v", c.name, got, want)
		}
		wantOwnListsOf5(t, c.name, got)
		if !slices.Equal(line, upTo(6)) {
			t.Fatalf("%s: what the lists share became %v", c.name, line)
		}
	}
}

// Columns behind a length are none: they neither spoil a list nor mend it.
func TestColumnsBehindALengthAreNone(t *testing.T) {
	none, _ := hiding(nil, 0, 1, 2)
	one, _ := hiding([]int{1}, 2, 0)
	got, ok := impl.ClosureOf(3, []impl.Dep{dep(none, none)}, none)
	wantList(t, "ClosureOf nothing with columns behind it", got, ok, nil)
	got, ok = impl.ClosureOf(3, []impl.Dep{dep(none, one)}, none)
	wantList(t, "ClosureOf by a sentence with columns behind it", got, ok, []int{1})
	names, _ := hiding([]int{1}, 2, 3)
	told, ok := impl.HoldsIn(relation(names, one), dep([]int{2}, nil))
	refusedTold(t, "HoldsIn of a name behind the length", told, ok)
	l := arrows("0>1", "1>2")
	got, ok = impl.ClosureOf(3, l[:1], []int{0})
	wantList(t, "ClosureOf with a sentence behind the length", got, ok, []int{0, 1})
	cover, ok := impl.CoverOf(3, arrows("0>1", "0>1", "1>2")[:1])
	wantDeps(t, "CoverOf with sentences behind the length", cover, ok, arrows("0>1"))
}
