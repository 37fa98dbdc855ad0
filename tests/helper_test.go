package tests

import (
	"math"
	"slices"
	"testing"
	"unsafe"
)

const spare = 32

// oddInts are arguments that no function may panic on.
var oddInts = []int{math.MinInt, math.MinInt + 1, -1 << 50, -1 << 32, -2, -1, 1<<50 + 1, 1 << 56, 1 << 62, math.MaxInt - 1, math.MaxInt}

// guarded is a slice whose elements and spare capacity are watched.
type guarded[T comparable] struct {
	arg    []T
	before []T
}

func guard[T comparable](l []T, filler T) guarded[T] {
	full := slices.Grow(slices.Clone(l), spare)
	full = full[:cap(full)]
	for i := len(l); i < len(full); i++ {
		full[i] = filler
	}
	return guarded[T]{full[:len(l)], slices.Clone(full)}
}

func (g guarded[T]) unchanged(t *testing.T, what string) {
	t.Helper()
	for i, now := range g.arg[:cap(g.arg)] {
		if now != g.before[i] {
			t.Fatalf("%s: element %d of an argument of %d, or of its spare capacity, became %v, was %v", what, i, len(g.arg), now, g.before[i])
		}
	}
}

// scribble overwrites a result with its spare capacity, which must not reach any argument.
func scribble[T any](l []T, v T) {
	l = l[:cap(l)]
	for i := range l {
		l[i] = v
	}
}

// touch reports whether two slices, with the spare capacity behind them, have memory in common.
func touch[T any](a []T, b []T) bool {
	if cap(a) == 0 || cap(b) == 0 {
		return false
	}
	startA, sizeA := memoryOf(a)
	startB, sizeB := memoryOf(b)
	return startA < startB+sizeB && startB < startA+sizeA
}

func memoryOf[T any](l []T) (uintptr, uintptr) {
	var one T
	return uintptr(unsafe.Pointer(unsafe.SliceData(l))), uintptr(cap(l)) * unsafe.Sizeof(one)
}

// apart checks that no two of the results and arguments share memory, and that the arguments stay as they were, even when the results are overwritten with mess.
func apart[T comparable](t *testing.T, what string, mess T, results [][]T, args ...guarded[T]) {
	t.Helper()
	for i, got := range results {
		for _, other := range results[:i] {
			if touch(got, other) {
				t.Errorf("%s: two results share memory", what)
			}
		}
		for _, arg := range args {
			if touch(got, arg.arg) {
				t.Errorf("%s: a result shares memory with an argument", what)
			}
		}
	}
	for _, got := range results {
		scribble(got, mess)
	}
	for _, arg := range args {
		arg.unchanged(t, what)
	}
}
