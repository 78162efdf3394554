package impl

const (
	ThFalse = iota
	ThUnknown
	ThTrue
)

const (
	CmEqual = iota
	CmLess
	CmMore
)

// How two known numbers stand to each other: the columns of toldByKind.
const (
	standsBelow = iota
	standsLevel
	standsAbove
)

const (
	valueBound = 1000
	maxTruths  = 20
	maxFills   = 10
)

type Value struct {
	Null bool
	N    int
}

// The truths rise from false over unknown to true, so that and is the lesser
// one and or the greater one; row and column are the two truths.
var bothTold = [3][3]int{
	{ThFalse, ThFalse, ThFalse},
	{ThFalse, ThUnknown, ThUnknown},
	{ThFalse, ThUnknown, ThTrue},
}

var eitherTold = [3][3]int{
	{ThFalse, ThUnknown, ThTrue},
	{ThUnknown, ThUnknown, ThTrue},
	{ThTrue, ThTrue, ThTrue},
}

var turnedAbout = [3]int{ThTrue, ThUnknown, ThFalse}

// A row for each kind of Compare, a column for each way to stand.
var toldByKind = [3][3]int{
	{ThFalse, ThTrue, ThFalse},
	{ThTrue, ThFalse, ThFalse},
	{ThFalse, ThFalse, ThTrue},
}

func GoodValue(v Value) bool {
	if v.Null {
		return v.N == 0
	}
	return isInBound(v.N)
}

func AndOf(a int, b int) (int, bool) {
	if !isTruth(a) || !isTruth(b) {
		return 0, false
	}
	return bothTold[a][b], true
}

func OrOf(a int, b int) (int, bool) {
	if !isTruth(a) || !isTruth(b) {
		return 0, false
	}
	return eitherTold[a][b], true
}

func NotOf(a int) (int, bool) {
	if !isTruth(a) {
		return 0, false
	}
	return turnedAbout[a], true
}

func Compare(kind int, a Value, b Value) (int, bool) {
	if !isKind(kind) || !GoodValue(a) || !GoodValue(b) {
		return 0, false
	}
	if a.Null || b.Null {
		return ThUnknown, true
	}
	return toldByKind[kind][standing(a.N, b.N)], true
}

// Null has N 0 too, so both fields are held against each other: Null is the
// same as Null, and not as 0.
func SameValue(a Value, b Value) (bool, bool) {
	if !GoodValue(a) || !GoodValue(b) {
		return false, false
	}
	return a == b, true
}

func AllOf(l []int) (int, bool) {
	if len(l) > maxTruths {
		return 0, false
	}
	all := ThTrue
	// No early end at ThFalse: a wrong truth behind it is refused all the same.
	for _, truth := range l {
		both, ok := AndOf(all, truth)
		if !ok {
			return 0, false
		}
		all = both
	}
	return all, true
}

func FillsOf(v Value, fills []int) ([]int, bool) {
	if !GoodValue(v) || !areFills(fills) {
		return nil, false
	}
	may := make([]int, len(fills))
	for i, n := range fills {
		if v.Null {
			may[i] = n
		} else {
			may[i] = v.N
		}
	}
	return may, true
}

func isTruth(a int) bool {
	return a >= ThFalse && a <= ThTrue
}

func isKind(kind int) bool {
	return kind >= CmEqual && kind <= CmMore
}

func isInBound(n int) bool {
	return n >= -valueBound && n <= valueBound
}

func areFills(fills []int) bool {
	if len(fills) > maxFills {
		return false
	}
	for _, n := range fills {
		if !isInBound(n) {
			return false
		}
	}
	return true
}

func standing(a int, b int) int {
	if a < b {
		return standsBelow
	}
	if a > b {
		return standsAbove
	}
	return standsLevel
}
