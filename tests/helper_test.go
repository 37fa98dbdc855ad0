package tests

import (
	"math"
	"slices"
	"testing"
)

const spare = 32

// oddInts are arguments that no function may panic on.
var oddInts = []int{math.MinInt, math.MinInt + 1, -1 << 50, -1 << 32, -2, -1, 1<<50 + 1, 1 << 56, 1 << 62, math.MaxInt - 1, math.MaxInt}

// guarded is a slice whose elements and spare capacity are watched.
type guarded[T comparable] struct {
	arg    []T
	before []T
}

func guard[T comparable](l []T, filler T) guarded[T] {
	full := slices.Grow(slices.Clone(l), spare)
	full = full[:cap(full)]
	for i := len(l); i < len(full); i++ {
		full[i] = filler
	}
	return guarded[T]{full[:len(l)], slices.Clone(full)}
}

func (g guarded[T]) unchanged(t *testing.T, what string) {
	t.Helper()
	if now := g.arg[:cap(g.arg)]; !slices.Equal(now, g.before) {
		t.Errorf("%s: the argument or its spare capacity became %v, was %v", what, now, g.before)
	}
}

// scribble overwrites a result with its spare capacity, which must not reach any argument.
func scribble[T any](l []T, v T) {
	l = l[:cap(l)]
	for i := range l {
		l[i] = v
	}
}
