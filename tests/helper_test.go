package tests

import (
	"math"
	"slices"
	"testing"
)

// extremes are numbers that no bound of the document lets in.
var extremes = []int{math.MinInt, math.MinInt + 1, math.MinInt32, math.MaxInt32, math.MaxInt - 1, math.MaxInt}

// hiding lays l into memory that goes on behind its length, with behind there.
// It answers the list and the whole memory.
func hiding(l []int, behind ...int) ([]int, []int) {
	whole := append(slices.Clone(l), behind...)
	return whole[:len(l)], whole
}

func repeated(v int, n int) []int {
	return slices.Repeat([]int{v}, n)
}

func wantInt(t *testing.T, what string, got int, ok bool, want int) {
	t.Helper()
	if got != want || !ok {
		t.Errorf("%s: got %d, %v; want %d, true", what, got, ok, want)
	}
}

func refusedInt(t *testing.T, what string, got int, ok bool) {
	t.Helper()
	if got != 0 || ok {
		t.Errorf("%s: got %d, %v; want 0, false", what, got, ok)
	}
}

func wantList(t *testing.T, what string, got []int, ok bool, want []int) {
	t.Helper()
	if !slices.Equal(got, want) || !ok {
		t.Errorf("%s: got %v, %v; want %v, true", what, got, ok, want)
	}
}

// The empty list and the nil list are the same value, so only the length is asked for.
func refusedList(t *testing.T, what string, got []int, ok bool) {
	t.Helper()
	if len(got) != 0 || ok {
		t.Errorf("%s: got %v, %v; want none, false", what, got, ok)
	}
}
