package tests

import (
	"slices"
	"testing"

	"loop.example/g00641/impl"
)

// An answer of chapter 3, whichever function told it.
type answer3 struct {
	r    impl.Relation
	told bool
	ok   bool
}

type call3 struct {
	name string
	ask  func(a impl.Relation, b impl.Relation, names []int) answer3
}

func ofRelation(r impl.Relation, ok bool) answer3 { return answer3{r: r, ok: ok} }

// callsOf3 are all functions of chapter 3, asked at a name.
func callsOf3(name int) []call3 {
	return []call3{
		{"GoodRelation", func(a, _ impl.Relation, _ []int) answer3 { return answer3{ok: impl.GoodRelation(a)} }},
		{"Choose equal", func(a, _ impl.Relation, _ []int) answer3 { return ofRelation(impl.Choose(a, name, impl.CmEqual, 1)) }},
		{"Choose all", func(a, _ impl.Relation, _ []int) answer3 { return ofRelation(impl.Choose(a, name, impl.CmLess, 1000)) }},
		{"Choose none", func(a, _ impl.Relation, _ []int) answer3 { return ofRelation(impl.Choose(a, name, impl.CmMore, 1000)) }},
		{"Project", func(a, _ impl.Relation, names []int) answer3 { return ofRelation(impl.Project(a, names)) }},
		{"Project to all", func(a, _ impl.Relation, _ []int) answer3 { return ofRelation(impl.Project(a, a.Names)) }},
		{"JoinTwo", func(a, b impl.Relation, _ []int) answer3 { return ofRelation(impl.JoinTwo(a, b)) }},
		{"JoinTwo of itself", func(a, _ impl.Relation, _ []int) answer3 { return ofRelation(impl.JoinTwo(a, a)) }},
		{"UnionOf", func(a, b impl.Relation, _ []int) answer3 { return ofRelation(impl.UnionOf(a, b)) }},
		{"UnionOf itself", func(a, _ impl.Relation, _ []int) answer3 { return ofRelation(impl.UnionOf(a, a)) }},
		{"WithoutOf", func(a, b impl.Relation, _ []int) answer3 { return ofRelation(impl.WithoutOf(a, b)) }},
		{"Rename up", func(a, _ impl.Relation, _ []int) answer3 { return ofRelation(impl.Rename(a, name, 19)) }},
		{"Rename down", func(a, _ impl.Relation, _ []int) answer3 { return ofRelation(impl.Rename(a, name, 2)) }},
		{"SameTuples", func(a, b impl.Relation, _ []int) answer3 {
			told, ok := impl.SameTuples(a, b)
			return answer3{told: told, ok: ok}
		}},
	}
}

func sameAnswer3(a answer3, b answer3) bool {
	return sameRelation(a.r, b.r) && a.told == b.told && a.ok == b.ok
}

func copyAnswer3(a answer3) answer3 {
	return answer3{r: copyRelation(a.r), told: a.told, ok: a.ok}
}

// hidingRelation lays all lists of r into memory that goes on behind them.
func hidingRelation(r impl.Relation, behind int) impl.Relation {
	tuples := [][]int{}
	for _, tuple := range r.Tuples {
		hidden, _ := hiding(tuple, behind, behind+1)
		tuples = append(tuples, hidden)
	}
	for k := range 2 {
		hidden, _ := hiding(repeated(behind+k, len(r.Names)), behind)
		tuples = append(tuples, hidden)
	}
	names, _ := hiding(r.Names, behind, behind+1)
	return impl.Relation{Names: names, Tuples: tuples[:len(r.Tuples)]}
}

// wholeRelation copies all that lies in the memory of r, behind its lengths too.
func wholeRelation(r impl.Relation) impl.Relation {
	all := impl.Relation{Names: slices.Clone(r.Names[:cap(r.Names)])}
	for _, tuple := range r.Tuples[:cap(r.Tuples)] {
		all.Tuples = append(all.Tuples, slices.Clone(tuple[:cap(tuple)]))
	}
	return all
}

func spoilList(l []int) {
	l = l[:cap(l)]
	for i := range l {
		l[i] = -404
	}
}

// spoilRelation writes over all memory of r, behind its lengths too.
func spoilRelation(r impl.Relation) {
	spoilList(r.Names)
	tuples := r.Tuples[:cap(r.Tuples)]
	for i := range tuples {
		spoilList(tuples[i])
		tuples[i] = nil
	}
}

// memoryRelations are good ones and some that are not: the third and the fourth share their names.
func memoryRelations() []impl.Relation {
	return []impl.Relation{
		{}, relation(nil, []int{}), relation([]int{0, 4}, []int{0, 1}, []int{1, 0}, []int{1, 2}), relation([]int{0, 4}, []int{1, 0}, []int{5, 5}),
		relation([]int{4}, []int{1}, []int{2}), relation([]int{9}, []int{-1}, []int{1}), relation([]int{4, 9}, []int{0, 7}, []int{1, 1}, []int{1, 3}),
		relation([]int{4, 5, 6, 7, 8, 9}, manyTuples(60, 6)...), relation([]int{0, 4}, manyTuples(59, 2)...), relation([]int{4, 9}, manyTuples(61, 2)...),
		relation([]int{4, 0}, []int{1, 1}), relation([]int{4}, []int{1, 2}), relation([]int{4}, []int{}),
	}
}

// eachOf3 asks check of each call of chapter 3 at two of memoryRelations, at some names.
func eachOf3(check func(c call3, a impl.Relation, b impl.Relation, names []int)) {
	for _, a := range memoryRelations() {
		for _, b := range memoryRelations() {
			for _, names := range [][]int{{}, {4}, {0, 4}, {4, 9}, {9}, {7}} {
				for _, c := range callsOf3(slices.Max(append([]int{0}, names...))) {
					check(c, a, b, names)
				}
			}
		}
	}
}

// Promise 19: nothing is written into an argument, and what lies behind a length is not read.
func TestListsOfChapter3StayAsTheyWere(t *testing.T) {
	eachOf3(func(c call3, a impl.Relation, b impl.Relation, names []int) {
		want := c.ask(copyRelation(a), copyRelation(b), slices.Clone(names))
		for _, behind := range []int{0, 5, 9, 1000, 5000, -1} {
			left, right := hidingRelation(a, behind), hidingRelation(b, behind)
			some, someWhole := hiding(names, behind, behind+1)
			leftBefore, rightBefore, someBefore := wholeRelation(left), wholeRelation(right), slices.Clone(someWhole)
			got := c.ask(left, right, some)
			if !sameAnswer3(got, want) {
				t.Errorf("%s of %v, %v at %v hangs on %d behind them: %v, not %v", c.name, a, b, names, behind, got, want)
			}
			if !sameRelation(wholeRelation(left), leftBefore) || !sameRelation(wholeRelation(right), rightBefore) || !slices.Equal(someWhole, someBefore) {
				t.Fatalf("%s at %v made %v, %v of %v, %v", c.name, names, wholeRelation(left), wholeRelation(right), a, b)
			}
			if len(left.Names) != len(a.Names) || len(left.Tuples) != len(a.Tuples) {
				t.Fatalf("%s at %v changed a length of %v", c.name, names, a)
			}
		}
	})
}

// Promise 19: an answer is new memory; written over, it changes no argument, and it follows none.
func TestAnswersOfChapter3ShareNoneWithArguments(t *testing.T) {
	eachOf3(func(c call3, a impl.Relation, b impl.Relation, names []int) {
		left, right := hidingRelation(a, 5), hidingRelation(b, 5)
		some, someWhole := hiding(names, 5)
		leftBefore, rightBefore, someBefore := wholeRelation(left), wholeRelation(right), slices.Clone(someWhole)
		got := c.ask(left, right, some)
		want := copyAnswer3(got)
		second := c.ask(left, right, some)
		spoilRelation(got.r)
		if !sameRelation(wholeRelation(left), leftBefore) || !sameRelation(wholeRelation(right), rightBefore) || !slices.Equal(someWhole, someBefore) {
			t.Fatalf("%s at %v shares memory with %v, %v or the names", c.name, names, a, b)
		}
		spoilRelation(left)
		spoilRelation(right)
		spoilList(some)
		if !sameAnswer3(second, want) {
			t.Errorf("%s at %v: its second answer became %v, not %v", c.name, names, second, want)
		}
	})
}

// Promise 19: no two lists of one answer share memory, and nothing lies behind them.
func TestListsOfAnAnswerOfChapter3ShareNone(t *testing.T) {
	eachOf3(func(c call3, a impl.Relation, b impl.Relation, names []int) {
		got := c.ask(a, b, names).r
		wantOwnLists(t, c.name, got)
	})
}

// wantOwnLists writes over one list of r after the other and asks that all others stay.
func wantOwnLists(t *testing.T, what string, r impl.Relation) {
	t.Helper()
	for _, tuple := range r.Tuples[len(r.Tuples):cap(r.Tuples)] {
		if len(tuple) != 0 || cap(tuple) != 0 {
			t.Errorf("%s hands out %v behind its tuples", what, tuple)
		}
	}
	lists := append([][]int{r.Names}, r.Tuples...)
	for i, l := range lists {
		for _, n := range l[len(l):cap(l)] {
			refusedInt(t, what+" behind its answer", n, false)
		}
		before := copyTuples(lists)
		spoilList(l)
		before[i] = slices.Clone(l)
		if !slices.EqualFunc(lists, before, sameTuple) {
			t.Fatalf("%s: lists share memory: %v", what, lists)
		}
	}
}

// Lists of an argument may share memory among themselves, and two arguments theirs: an answer's do not.
func TestAnswersOfArgumentsThatShareMemory(t *testing.T) {
	line := []int{0, 1, 2, 3, 4, 5}
	a := relation(line[0:2], line[0:2], line[1:3], line[2:4], line[4:6])
	b := relation(line[0:2], line[1:3], line[3:5])
	for _, c := range callsOf3(0) {
		got := c.ask(a, b, line[1:2])
		want := c.ask(copyRelation(a), copyRelation(b), []int{1})
		if !sameAnswer3(got, want) || !got.ok {
			t.Errorf("%s of lists that share memory: %v, not %v", c.name, got, want)
		}
		wantOwnLists(t, c.name, got.r)
		if !slices.Equal(line, []int{0, 1, 2, 3, 4, 5}) {
			t.Fatalf("%s: what the lists share became %v", c.name, line)
		}
	}
}

// A tuple too short by one with a good number behind it is too short all the same, and names behind a length are none.
func TestWhatLiesBehindDoesNotCount(t *testing.T) {
	short, _ := hiding([]int{1}, 2, 3)
	names, _ := hiding([]int{0, 4}, 9, 13)
	if impl.GoodRelation(impl.Relation{Names: names, Tuples: [][]int{short}}) {
		t.Error("a tuple of one number is good under two names")
	}
	long := relation(names[:1], short)
	if !impl.GoodRelation(long) {
		t.Error("a tuple of one number is not good under one name")
	}
	got, ok := impl.Choose(long, 4, impl.CmEqual, 2)
	refusedRelation(t, "Choose by a name behind the length", got, ok)
	got, ok = impl.Project(long, []int{0, 4})
	refusedRelation(t, "Project to a name behind the length", got, ok)
	got, ok = impl.Rename(long, 0, 4)
	wantRelation(t, "Rename to a name behind the length", got, ok, relation([]int{4}, []int{1}))
}
