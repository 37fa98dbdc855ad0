package tests

import (
	"fmt"
	"math"
	"math/big"
	"math/rand"
	"slices"
	"testing"

	"loop.example/g00801/impl"
)

func roundSamples() []int {
	return append([]int{0, 1, 2, 3, 4, 5, 6, 7, 8, 9, 10, 1000, impl.MaxAmt - 4, impl.MaxAmt - 3, impl.MaxAmt - 2, impl.MaxAmt - 1, impl.MaxAmt, impl.MaxAmt + 1, impl.MaxAmt + 2, impl.MaxNum}, oddInts...)
}

func choiceSamples() []int { return append([]int{0, 1, 2, 3, 4, 5}, oddInts...) }

func isNodeModel(n int) bool { return n == 0 || n == 1 || n == 2 || n == 3 }

func isChoiceModel(n int) bool { return isNodeModel(n - 1) }

func isBallotModel(n int) bool { return n != 0 && numberModel(n) }

func ballotModel(round int, node int) int {
	if round < 0 || round > 1000000000 || !isNodeModel(node) {
		return 0
	}
	return 4*round + node + 1
}

// aboveModel tries one ballot after the other.
func aboveModel(b int, node int) int {
	if b < 0 || b > 1000000000 || !isNodeModel(node) {
		return 0
	}
	for c := b + 1; ; c++ {
		if (c-1)%4 == node {
			return c
		}
	}
}

func mostModel(k int, n int) bool {
	twice := new(big.Int).Mul(big.NewInt(2), big.NewInt(int64(k)))
	return twice.Cmp(big.NewInt(int64(n))) > 0
}

func TestP10BallotOf(t *testing.T) {
	for _, round := range roundSamples() {
		for _, node := range nodeSamples() {
			if got := impl.BallotOf(round, node); got != ballotModel(round, node) {
				t.Errorf("BallotOf(%d, %d) = %d, want %d", round, node, got, ballotModel(round, node))
			}
		}
	}
}

func TestP10BallotOfExamples(t *testing.T) {
	for _, c := range []struct{ round, node, want int }{
		{0, 0, 1}, {0, 1, 2}, {0, 2, 3}, {0, 3, 4}, {1, 0, 5}, {1, 2, 7}, {1, 3, 8},
		{1000000000, 0, 4000000001}, {1000000000, 3, 4000000004}, {999999999, 3, 4000000000},
		{1000000001, 0, 0}, {1000000001, 3, 0}, {-1, 0, 0}, {-1, 3, 0}, {0, -1, 0}, {0, 4, 0}, {5, 4, 0}, {5, -1, 0},
		{math.MaxInt, 0, 0}, {math.MinInt, 0, 0}, {0, math.MaxInt, 0}, {0, math.MinInt, 0}, {math.MinInt, math.MinInt, 0},
	} {
		if got := impl.BallotOf(c.round, c.node); got != c.want {
			t.Errorf("BallotOf(%d, %d) = %d, want %d", c.round, c.node, got, c.want)
		}
	}
}

// Every ballot belongs to one node and one round.
func TestP10BallotsInOrder(t *testing.T) {
	next := 1
	for round := range 500 {
		for node := range impl.MaxNodes {
			if got := impl.BallotOf(round, node); got != next || (got-1)%impl.MaxNodes != node {
				t.Fatalf("BallotOf(%d, %d) = %d, want %d", round, node, got, next)
			}
			next++
		}
	}
}

func TestP10BallotAbove(t *testing.T) {
	samples := roundSamples()
	for b := range 300 {
		samples = append(samples, b, impl.MaxAmt-b)
	}
	for _, b := range samples {
		for _, node := range nodeSamples() {
			if got := impl.BallotAbove(b, node); got != aboveModel(b, node) {
				t.Errorf("BallotAbove(%d, %d) = %d, want %d", b, node, got, aboveModel(b, node))
			}
		}
	}
}

func TestP10BallotAboveExamples(t *testing.T) {
	for _, c := range []struct{ b, node, want int }{
		{0, 0, 1}, {0, 1, 2}, {0, 2, 3}, {0, 3, 4}, {1, 0, 5}, {1, 1, 2}, {4, 3, 8}, {4, 0, 5}, {3, 3, 4}, {7, 2, 11}, {6, 2, 7}, {8, 2, 11},
		{1000000000, 3, 1000000004}, {1000000000, 0, 1000000001}, {1000000000, 2, 1000000003}, {999999999, 3, 1000000000},
		{1000000001, 0, 0}, {1000000001, 3, 0}, {-1, 0, 0}, {-1, 3, 0}, {-4, 3, 0}, {0, -1, 0}, {0, 4, 0}, {9, 4, 0}, {9, -1, 0},
		{math.MaxInt, 0, 0}, {math.MinInt, 0, 0}, {math.MinInt, 3, 0}, {0, math.MaxInt, 0}, {0, math.MinInt, 0},
	} {
		if got := impl.BallotAbove(c.b, c.node); got != c.want {
			t.Errorf("BallotAbove(%d, %d) = %d, want %d", c.b, c.node, got, c.want)
		}
	}
}

// The ballots of a node follow each other, whatever lies between them.
func TestP10BallotAboveBallotOf(t *testing.T) {
	for _, round := range []int{0, 1, 2, 77, 249999999} {
		for node := range impl.MaxNodes {
			b := impl.BallotOf(round, node)
			if b > impl.MaxAmt {
				t.Fatalf("BallotOf(%d, %d) = %d", round, node, b)
			}
			for step := range impl.MaxNodes {
				if got := impl.BallotAbove(b-1-step, node); b-1-step >= 0 && got != b {
					t.Errorf("BallotAbove(%d, %d) = %d, want %d", b-1-step, node, got, b)
				}
				if got := impl.BallotAbove(b+step, node); b+step <= impl.MaxAmt && got != impl.BallotOf(round+1, node) {
					t.Errorf("BallotAbove(%d, %d) = %d, want %d", b+step, node, got, impl.BallotOf(round+1, node))
				}
			}
		}
	}
}

func TestP10IsMost(t *testing.T) {
	samples := slices.Clone(oddInts)
	for n := -12; n <= 12; n++ {
		samples = append(samples, n, math.MaxInt/2+n, math.MinInt/2+n)
	}
	for _, k := range samples {
		for _, n := range samples {
			if got := impl.IsMost(k, n); got != mostModel(k, n) {
				t.Errorf("IsMost(%d, %d) = %v", k, n, got)
			}
		}
	}
}

func TestP10IsMostExamples(t *testing.T) {
	for _, c := range []struct {
		k, n int
		want bool
	}{
		{2, 4, false}, {3, 4, true}, {1, 4, false}, {1, 3, false}, {2, 3, true}, {1, 2, false}, {2, 2, true}, {0, 1, false}, {1, 1, true},
		{0, 0, false}, {1, 0, true}, {-1, 0, false}, {0, -1, true}, {-1, -1, false}, {-1, -2, false}, {0, -2, true}, {-1, -3, true}, {-2, -3, false}, {-2, -4, false}, {-1, -4, true},
		{math.MaxInt, math.MaxInt, true}, {math.MinInt, math.MinInt, false}, {math.MaxInt, math.MinInt, true}, {math.MinInt, math.MaxInt, false},
		{math.MaxInt / 2, math.MaxInt, false}, {math.MaxInt/2 + 1, math.MaxInt, true}, {math.MinInt / 2, math.MinInt, false}, {math.MinInt/2 + 1, math.MinInt, true}, {0, math.MinInt, true}, {0, math.MaxInt, false},
		{math.MaxInt, 0, true}, {math.MinInt, 0, false}, {math.MaxInt, 3, true}, {math.MinInt, -3, false},
	} {
		if got := impl.IsMost(c.k, c.n); got != c.want {
			t.Errorf("IsMost(%d, %d) = %v", c.k, c.n, got)
		}
	}
}

func accModel(a impl.Acc) bool {
	if !numberModel(a.Prom) {
		return false
	}
	if a.Bal == 0 {
		return a.Val == 0
	}
	return a.Bal > 0 && a.Bal <= a.Prom && isChoiceModel(a.Val)
}

func accOf(prom int, bal int, val int) impl.Acc { return impl.Acc{Prom: prom, Bal: bal, Val: val} }

// around holds the ballots near n, and those at which a rule could end.
func around(n int) []int {
	return append([]int{n - 2, n - 1, n, n + 1, n + 2, n / 2, 0, 1, 2, impl.MaxNum - 1, impl.MaxNum}, oddInts...)
}

func allAccs() []impl.Acc {
	l := []impl.Acc{}
	for _, prom := range append([]int{0, 1, 2, 5, 6, 1000, impl.MaxNum - 1, impl.MaxNum}, oddInts...) {
		for _, bal := range around(prom) {
			for _, val := range choiceSamples() {
				l = append(l, accOf(prom, bal, val))
			}
		}
	}
	return l
}

func goodAccs() []impl.Acc {
	return slices.DeleteFunc(allAccs(), func(a impl.Acc) bool { return !accModel(a) })
}

func TestP10AccOk(t *testing.T) {
	good, bad := 0, 0
	for _, a := range allAccs() {
		if got := impl.AccOk(a); got != accModel(a) {
			t.Errorf("AccOk(%v) = %v", a, got)
		}
		if accModel(a) {
			good++
		} else {
			bad++
		}
	}
	if good < 100 || bad < 100 {
		t.Errorf("there were only %d valid and %d other acceptors", good, bad)
	}
}

func TestP10AccOkExamples(t *testing.T) {
	for _, c := range []struct {
		a    impl.Acc
		want bool
	}{
		{accOf(0, 0, 0), true}, {accOf(7, 0, 0), true}, {accOf(impl.MaxNum, 0, 0), true}, {accOf(impl.MaxNum+1, 0, 0), false}, {accOf(-1, 0, 0), false},
		{accOf(7, 1, 1), true}, {accOf(7, 7, 1), true}, {accOf(7, 7, 4), true}, {accOf(7, 8, 1), false}, {accOf(7, -1, 1), false},
		{accOf(7, 7, 5), false}, {accOf(7, 7, 0), false}, {accOf(7, 7, -1), false}, {accOf(7, 0, 1), false}, {accOf(7, 0, 4), false}, {accOf(7, 1, 0), false},
		{accOf(0, 0, 1), false}, {accOf(0, 1, 1), false}, {accOf(0, 1, 0), false}, {accOf(0, -1, 1), false}, {accOf(-1, -1, 1), false},
		{accOf(impl.MaxNum, impl.MaxNum, 4), true}, {accOf(impl.MaxNum+1, 1, 1), false}, {accOf(impl.MaxNum+1, impl.MaxNum+1, 1), false}, {accOf(impl.MaxNum, impl.MaxNum+1, 1), false},
		{accOf(math.MaxInt, math.MaxInt, 1), false}, {accOf(math.MinInt, math.MinInt, 1), false}, {accOf(math.MinInt, 0, 0), false},
		{accOf(7, math.MinInt, 1), false}, {accOf(7, math.MaxInt, 1), false}, {accOf(7, 7, math.MinInt), false}, {accOf(7, 7, math.MaxInt), false},
	} {
		if got := impl.AccOk(c.a); got != c.want {
			t.Errorf("AccOk(%v) = %v", c.a, got)
		}
	}
}

func isAcc(t *testing.T, what string, got impl.Acc, ok bool, want impl.Acc, wantOk bool) {
	t.Helper()
	if ok != wantOk || got != want {
		t.Errorf("%s: got %v, %v, want %v, %v", what, got, ok, want, wantOk)
	}
}

func prepModel(a impl.Acc, b int) (impl.Acc, bool) {
	if accModel(a) && numberModel(b) && b > a.Prom {
		return accOf(b, a.Bal, a.Val), true
	}
	return impl.Acc{}, false
}

func takeModel(a impl.Acc, b int, v int) (impl.Acc, bool) {
	if accModel(a) && isChoiceModel(v) && isBallotModel(b) && b >= a.Prom {
		return accOf(b, b, v), true
	}
	return impl.Acc{}, false
}

func TestP10AccPrep(t *testing.T) {
	for _, a := range allAccs() {
		for _, b := range around(a.Prom) {
			got, ok := impl.AccPrep(a, b)
			want, fine := prepModel(a, b)
			if got != want || ok != fine || ok && !impl.AccOk(got) {
				t.Errorf("AccPrep(%v, %d) = %v, %v, want %v, %v", a, b, got, ok, want, fine)
			}
		}
	}
}

func TestP10AccPrepExamples(t *testing.T) {
	fresh, voted, last := impl.Acc{}, accOf(7, 5, 3), accOf(impl.MaxNum, 1, 1)
	for _, c := range []struct {
		a    impl.Acc
		b    int
		want impl.Acc
		ok   bool
	}{
		{fresh, 0, impl.Acc{}, false}, {fresh, 1, accOf(1, 0, 0), true}, {fresh, -1, impl.Acc{}, false},
		{fresh, impl.MaxNum, accOf(impl.MaxNum, 0, 0), true}, {fresh, impl.MaxNum + 1, impl.Acc{}, false},
		{fresh, math.MaxInt, impl.Acc{}, false}, {fresh, math.MinInt, impl.Acc{}, false},
		{voted, 6, impl.Acc{}, false}, {voted, 7, impl.Acc{}, false}, {voted, 8, accOf(8, 5, 3), true}, {voted, 5, impl.Acc{}, false}, {voted, 0, impl.Acc{}, false},
		{voted, impl.MaxNum, accOf(impl.MaxNum, 5, 3), true}, {voted, impl.MaxNum + 1, impl.Acc{}, false}, {voted, math.MaxInt, impl.Acc{}, false}, {voted, math.MinInt, impl.Acc{}, false},
		{last, impl.MaxNum, impl.Acc{}, false}, {last, impl.MaxNum + 1, impl.Acc{}, false}, {last, 2, impl.Acc{}, false},
		{accOf(7, 8, 1), 9, impl.Acc{}, false}, {accOf(7, 0, 1), 9, impl.Acc{}, false}, {accOf(7, 5, 5), 9, impl.Acc{}, false}, {accOf(-1, 0, 0), 9, impl.Acc{}, false}, {accOf(-1, 0, 0), 0, impl.Acc{}, false},
	} {
		got, ok := impl.AccPrep(c.a, c.b)
		isAcc(t, fmt.Sprintf("AccPrep(%v, %d)", c.a, c.b), got, ok, c.want, c.ok)
	}
}

func TestP10AccTake(t *testing.T) {
	for _, a := range allAccs() {
		for _, b := range around(a.Prom) {
			for _, v := range []int{math.MinInt, -1, 0, 1, 2, 4, 5, math.MaxInt} {
				got, ok := impl.AccTake(a, b, v)
				want, fine := takeModel(a, b, v)
				if got != want || ok != fine || ok && !impl.AccOk(got) {
					t.Errorf("AccTake(%v, %d, %d) = %v, %v, want %v, %v", a, b, v, got, ok, want, fine)
				}
			}
		}
	}
}

func TestP10AccTakeExamples(t *testing.T) {
	fresh, asked, voted, last := impl.Acc{}, accOf(7, 0, 0), accOf(7, 7, 3), accOf(impl.MaxNum, 1, 1)
	for _, c := range []struct {
		a    impl.Acc
		b, v int
		want impl.Acc
		ok   bool
	}{
		{fresh, 0, 1, impl.Acc{}, false}, {fresh, 1, 1, accOf(1, 1, 1), true}, {fresh, -1, 1, impl.Acc{}, false}, {fresh, impl.MaxNum, 4, accOf(impl.MaxNum, impl.MaxNum, 4), true}, {fresh, impl.MaxNum + 1, 4, impl.Acc{}, false},
		{asked, 6, 2, impl.Acc{}, false}, {asked, 7, 2, accOf(7, 7, 2), true}, {asked, 8, 2, accOf(8, 8, 2), true}, {asked, 0, 2, impl.Acc{}, false},
		{asked, 7, 1, accOf(7, 7, 1), true}, {asked, 7, 3, accOf(7, 7, 3), true}, {asked, 7, 4, accOf(7, 7, 4), true}, {asked, 7, 0, impl.Acc{}, false}, {asked, 7, 5, impl.Acc{}, false}, {asked, 7, -1, impl.Acc{}, false},
		{voted, 7, 3, accOf(7, 7, 3), true}, {voted, 7, 2, accOf(7, 7, 2), true}, {voted, 9, 1, accOf(9, 9, 1), true}, {voted, 6, 3, impl.Acc{}, false},
		{last, impl.MaxNum, 2, accOf(impl.MaxNum, impl.MaxNum, 2), true}, {last, impl.MaxNum - 1, 2, impl.Acc{}, false}, {last, impl.MaxNum + 1, 2, impl.Acc{}, false},
		{asked, math.MaxInt, 2, impl.Acc{}, false}, {asked, math.MinInt, 2, impl.Acc{}, false}, {asked, 7, math.MaxInt, impl.Acc{}, false}, {asked, 7, math.MinInt, impl.Acc{}, false},
		{accOf(7, 8, 1), 9, 1, impl.Acc{}, false}, {accOf(7, 0, 1), 9, 1, impl.Acc{}, false}, {accOf(7, 5, 5), 9, 1, impl.Acc{}, false}, {accOf(-1, 0, 0), 9, 1, impl.Acc{}, false}, {accOf(-1, 0, 0), 0, 1, impl.Acc{}, false},
	} {
		got, ok := impl.AccTake(c.a, c.b, c.v)
		isAcc(t, fmt.Sprintf("AccTake(%v, %d, %d)", c.a, c.b, c.v), got, ok, c.want, c.ok)
	}
}

func propOf(bal int, val int, best int, from []int, got []int) impl.Prop {
	return impl.Prop{Bal: bal, Val: val, From: from, Best: best, Got: got}
}

func cloneProp(p impl.Prop) impl.Prop {
	return propOf(p.Bal, p.Val, p.Best, slices.Clone(p.From), slices.Clone(p.Got))
}

func equalProps(a impl.Prop, b impl.Prop) bool {
	return a.Bal == b.Bal && a.Val == b.Val && a.Best == b.Best && slices.Equal(a.From, b.From) && slices.Equal(a.Got, b.Got)
}

func isProp(t *testing.T, what string, got impl.Prop, want impl.Prop) {
	t.Helper()
	if !equalProps(got, want) {
		t.Errorf("%s: got %v, want %v", what, got, want)
	}
}

// nodeListModel knows all lists that are valid.
func nodeListModel(l []int) bool {
	return slices.ContainsFunc(nodeLists(), func(good []int) bool { return slices.Equal(l, good) })
}

func nodeLists() [][]int {
	return [][]int{
		nil, {}, {0}, {1}, {2}, {3}, {0, 1}, {0, 2}, {0, 3}, {1, 2}, {1, 3}, {2, 3}, {0, 1, 2}, {0, 1, 3}, {0, 2, 3}, {1, 2, 3}, {0, 1, 2, 3},
	}
}

// badNodeLists holds lists with one fault each, wherever it can stand.
func badNodeLists() [][]int {
	l := [][]int{
		{1, 0}, {3, 0}, {0, 2, 1}, {1, 0, 2}, {2, 1, 0}, {3, 2, 1, 0}, {0, 1, 3, 2}, {1, 0, 2, 3}, {0, 2, 1, 3},
		{0, 0}, {3, 3}, {0, 0, 1}, {0, 1, 1}, {1, 1, 2, 3}, {0, 1, 2, 2}, {0, 1, 2, 3, 3}, {0, 0, 1, 2, 3}, {2, 2, 2, 2},
		{-1}, {4}, {-1, 0}, {0, -1}, {0, 4}, {4, 0}, {-1, 0, 1, 2}, {1, 2, 3, 4}, {0, 1, 2, 3, 4}, {-1, 0, 1, 2, 3}, {-1, 4}, {0, 1, 4, 3}, {0, -1, 2, 3},
		make([]int, 1000), sequence(1000),
	}
	for _, n := range oddInts {
		l = append(l, []int{n}, []int{0, n}, []int{n, 3})
	}
	return l
}

func sequence(count int) []int {
	l := []int{}
	for i := range count {
		l = append(l, i)
	}
	return l
}

func propModel(p impl.Prop) bool {
	return isBallotModel(p.Bal) && isChoiceModel(p.Val) && nodeListModel(p.From) && nodeListModel(p.Got) && p.Best >= 0 && p.Best < p.Bal
}

func goodProps() []impl.Prop {
	l := []impl.Prop{propOf(1, 1, 0, nil, nil), propOf(1, 4, 0, []int{}, []int{}), propOf(impl.MaxNum, 2, impl.MaxNum-1, []int{1, 3}, nil), propOf(2, 3, 1, []int{0, 1, 2, 3}, []int{0, 1, 2, 3})}
	for i, from := range nodeLists() {
		for j, got := range nodeLists() {
			bal := 9 + i
			l = append(l, propOf(bal, 1+j%4, (i+j)%bal, from, got))
		}
	}
	return l
}

// badProps holds proposers with one fault each.
func badProps() []impl.Prop {
	l := []impl.Prop{{}}
	for _, base := range []impl.Prop{propOf(9, 2, 4, nil, nil), propOf(9, 2, 0, []int{0, 2}, []int{2}), propOf(impl.MaxNum, 4, 1, []int{0, 1, 2, 3}, []int{0, 1, 2, 3})} {
		for _, n := range append([]int{0}, oddInts...) {
			l = append(l, propOf(n, base.Val, base.Best, base.From, base.Got))
		}
		for _, n := range append([]int{0, 5}, oddInts...) {
			l = append(l, propOf(base.Bal, n, base.Best, base.From, base.Got))
		}
		for _, n := range append([]int{base.Bal, base.Bal + 1}, oddInts...) {
			l = append(l, propOf(base.Bal, base.Val, n, base.From, base.Got))
		}
		for _, nodes := range badNodeLists() {
			l = append(l, propOf(base.Bal, base.Val, base.Best, nodes, base.Got), propOf(base.Bal, base.Val, base.Best, base.From, nodes))
		}
	}
	return l
}

func allProps() []impl.Prop { return append(goodProps(), badProps()...) }

func TestP10PropOk(t *testing.T) {
	for _, p := range goodProps() {
		if !propModel(p) || !impl.PropOk(p) {
			t.Errorf("PropOk(%v) is false", p)
		}
	}
	for _, p := range badProps() {
		if propModel(p) || impl.PropOk(p) {
			t.Errorf("PropOk(%v) is true", p)
		}
	}
}

// Every list of up to five small numbers, in From and in Got.
func TestP10PropOkEveryList(t *testing.T) {
	lists := [][]int{{}}
	for at := 0; at < len(lists); at++ {
		l := lists[at]
		if impl.PropOk(propOf(9, 1, 0, l, nil)) != nodeListModel(l) || impl.PropOk(propOf(9, 1, 0, nil, l)) != nodeListModel(l) {
			t.Errorf("PropOk is wrong for the list %v", l)
		}
		for n := -1; n <= impl.MaxNodes && len(l) < 5; n++ {
			lists = append(lists, append(slices.Clone(l), n))
		}
	}
}

func TestP10PropOkExamples(t *testing.T) {
	for _, c := range []struct {
		p    impl.Prop
		want bool
	}{
		{propOf(1, 1, 0, nil, nil), true}, {propOf(1, 1, 1, nil, nil), false}, {propOf(0, 1, 0, nil, nil), false}, {propOf(0, 1, -1, nil, nil), false}, {propOf(-1, 1, -2, nil, nil), false},
		{propOf(impl.MaxNum, 1, impl.MaxNum-1, nil, nil), true}, {propOf(impl.MaxNum, 1, impl.MaxNum, nil, nil), false}, {propOf(impl.MaxNum+1, 1, 0, nil, nil), false},
		{propOf(9, 1, 8, nil, nil), true}, {propOf(9, 1, 9, nil, nil), false}, {propOf(9, 1, -1, nil, nil), false}, {propOf(9, 4, 0, nil, nil), true}, {propOf(9, 5, 0, nil, nil), false}, {propOf(9, 0, 0, nil, nil), false},
		{propOf(9, 1, 0, []int{0, 1, 2, 3}, []int{0, 1, 2, 3}), true}, {propOf(9, 1, 0, []int{0, 1, 2, 3, 4}, nil), false}, {propOf(9, 1, 0, nil, []int{0, 1, 2, 3, 4}), false},
		{propOf(9, 1, 0, []int{1, 0}, nil), false}, {propOf(9, 1, 0, []int{1, 1}, nil), false}, {propOf(9, 1, 0, []int{-1}, nil), false}, {propOf(9, 1, 0, []int{4}, nil), false},
		{propOf(9, 1, 0, nil, []int{1, 0}), false}, {propOf(9, 1, 0, nil, []int{1, 1}), false}, {propOf(9, 1, 0, nil, []int{-1}), false}, {propOf(9, 1, 0, nil, []int{4}), false},
		{propOf(9, 1, 0, nil, []int{3}), true}, {propOf(9, 1, 0, []int{3}, nil), true}, {impl.Prop{}, false},
		{propOf(math.MaxInt, 1, 0, nil, nil), false}, {propOf(math.MinInt, 1, math.MaxInt, nil, nil), false}, {propOf(9, 1, math.MinInt, nil, nil), false}, {propOf(9, 1, math.MaxInt, nil, nil), false},
	} {
		if got := impl.PropOk(c.p); got != c.want {
			t.Errorf("PropOk(%v) = %v", c.p, got)
		}
	}
}

func TestP10PropNew(t *testing.T) {
	for _, b := range append([]int{0, 1, 2, 3, 9, 1000, impl.MaxNum - 1, impl.MaxNum}, oddInts...) {
		for _, v := range choiceSamples() {
			got, ok := impl.PropNew(b, v)
			want := impl.Prop{}
			good := isBallotModel(b) && isChoiceModel(v)
			if good {
				want = propOf(b, v, 0, nil, nil)
			}
			if ok != good || impl.PropOk(got) != good {
				t.Errorf("PropNew(%d, %d) = %v, %v", b, v, got, ok)
			}
			isProp(t, "PropNew", got, want)
		}
	}
}

func insertModel(l []int, node int) []int {
	out := append(slices.Clone(l), node)
	slices.Sort(out)
	return out
}

func hearModel(p impl.Prop, node int, bal int, val int) impl.Prop {
	good := propModel(p) && isNodeModel(node) && !slices.Contains(p.From, node) && bal >= 0 && bal < p.Bal
	if !good || bal > 0 && !isChoiceModel(val) {
		return cloneProp(p)
	}
	want := cloneProp(p)
	want.From = insertModel(p.From, node)
	if bal > p.Best {
		want.Best, want.Val = bal, val
	}
	return want
}

func gotModel(p impl.Prop, node int) impl.Prop {
	want := cloneProp(p)
	if propModel(p) && isNodeModel(node) && !slices.Contains(p.Got, node) {
		want.Got = insertModel(p.Got, node)
	}
	return want
}

func reportSamples(p impl.Prop) []int {
	return []int{math.MinInt, -1, 0, 1, p.Best - 1, p.Best, p.Best + 1, p.Bal - 1, p.Bal, p.Bal + 1, impl.MaxNum, impl.MaxNum + 1, math.MaxInt}
}

func TestP10PropHear(t *testing.T) {
	heard := 0
	for _, p := range goodProps() {
		for node := -1; node <= impl.MaxNodes; node++ {
			for _, bal := range reportSamples(p) {
				for val := -1; val <= impl.MaxNodes+1; val++ {
					got, want := impl.PropHear(p, node, bal, val), hearModel(p, node, bal, val)
					if !equalProps(got, want) || !impl.PropOk(got) {
						t.Errorf("PropHear(%v, %d, %d, %d) = %v, want %v", p, node, bal, val, got, want)
					}
					if len(got.From) > len(p.From) {
						heard++
					}
				}
			}
		}
	}
	if heard < 1000 {
		t.Errorf("only %d promises were heard", heard)
	}
}

func TestP10PropHearOddArguments(t *testing.T) {
	p := propOf(9, 2, 4, []int{1}, []int{3})
	for _, n := range oddInts {
		isProp(t, "PropHear of an odd node", impl.PropHear(p, n, 5, 3), p)
		isProp(t, "PropHear of an odd ballot", impl.PropHear(p, 2, n, 3), p)
		isProp(t, "PropHear of an odd choice", impl.PropHear(p, 2, 5, n), p)
		isProp(t, "PropHear of an odd choice in an earlier ballot", impl.PropHear(p, 2, 1, n), p)
		isProp(t, "PropHear of no choice", impl.PropHear(p, 2, 0, n), propOf(9, 2, 4, []int{1, 2}, []int{3}))
		isProp(t, "PropHear of odd arguments", impl.PropHear(p, n, n, n), p)
		isProp(t, "PropGot of an odd node", impl.PropGot(p, n), p)
	}
}

func TestP10PropHearExamples(t *testing.T) {
	p := propOf(9, 1, 4, []int{1}, []int{0})
	for _, c := range []struct {
		what           string
		node, bal, val int
		want           impl.Prop
	}{
		{"no choice", 2, 0, 0, propOf(9, 1, 4, []int{1, 2}, []int{0})},
		{"no choice, and a val that has no meaning", 2, 0, 3, propOf(9, 1, 4, []int{1, 2}, []int{0})},
		{"an earlier choice", 2, 3, 3, propOf(9, 1, 4, []int{1, 2}, []int{0})},
		{"a choice at Best", 2, 4, 3, propOf(9, 1, 4, []int{1, 2}, []int{0})},
		{"a choice above Best", 2, 5, 3, propOf(9, 3, 5, []int{1, 2}, []int{0})},
		{"a choice at Bal - 1", 0, 8, 4, propOf(9, 4, 8, []int{0, 1}, []int{0})},
		{"a choice at Bal", 0, 9, 4, p},
		{"a choice above Bal", 0, 10, 4, p},
		{"a negative ballot", 0, -1, 4, p},
		{"an early choice that is none", 0, 1, 0, p},
		{"a choice of 0", 0, 5, 0, p},
		{"a choice of 1", 0, 5, 1, propOf(9, 1, 5, []int{0, 1}, []int{0})},
		{"the greatest choice", 0, 5, 4, propOf(9, 4, 5, []int{0, 1}, []int{0})},
		{"a choice above the greatest", 0, 5, 5, p},
		{"a node that was heard", 1, 0, 0, p},
		{"a node that was heard, with a later choice", 1, 8, 4, p},
		{"a node below 0", -1, 5, 3, p},
		{"a node that is MaxNodes", 4, 5, 3, p},
		{"the last node", 3, 5, 3, propOf(9, 3, 5, []int{1, 3}, []int{0})},
	} {
		isProp(t, c.what, impl.PropHear(p, c.node, c.bal, c.val), c.want)
	}
	isProp(t, "a ballot without earlier ones", impl.PropHear(propOf(1, 2, 0, nil, nil), 3, 0, 0), propOf(1, 2, 0, []int{3}, nil))
	isProp(t, "the only earlier ballot", impl.PropHear(propOf(2, 2, 0, nil, nil), 3, 1, 4), propOf(2, 4, 1, []int{3}, nil))
	isProp(t, "the greatest ballot", impl.PropHear(propOf(impl.MaxNum, 2, 0, nil, nil), 3, impl.MaxNum-1, 4), propOf(impl.MaxNum, 4, impl.MaxNum-1, []int{3}, nil))
}

func TestP10PropGot(t *testing.T) {
	for _, p := range goodProps() {
		for node := -1; node <= impl.MaxNodes+1; node++ {
			got, want := impl.PropGot(p, node), gotModel(p, node)
			if !equalProps(got, want) || !impl.PropOk(got) {
				t.Errorf("PropGot(%v, %d) = %v, want %v", p, node, got, want)
			}
		}
	}
	p := propOf(9, 1, 4, []int{1}, []int{0, 2})
	isProp(t, "between", impl.PropGot(p, 1), propOf(9, 1, 4, []int{1}, []int{0, 1, 2}))
	isProp(t, "behind", impl.PropGot(p, 3), propOf(9, 1, 4, []int{1}, []int{0, 2, 3}))
	isProp(t, "again", impl.PropGot(p, 2), p)
	isProp(t, "below 0", impl.PropGot(p, -1), p)
	isProp(t, "at MaxNodes", impl.PropGot(p, 4), p)
	isProp(t, "the first one", impl.PropGot(propOf(9, 1, 4, nil, nil), 0), propOf(9, 1, 4, nil, []int{0}))
}

func TestP10PropReadyAndWon(t *testing.T) {
	for _, p := range goodProps() {
		for _, n := range append([]int{-4, -3, 0, 1, 2, 3, 4, 5, 6, 7, 8, 9}, oddInts...) {
			ready := mostModel(len(p.From), n)
			if got := impl.PropReady(p, n); got != ready {
				t.Errorf("PropReady(%v, %d) = %v", p, n, got)
			}
			if got := impl.PropWon(p, n); got != (ready && mostModel(len(p.Got), n)) {
				t.Errorf("PropWon(%v, %d) = %v", p, n, got)
			}
		}
	}
}

func TestP10PropReadyAndWonExamples(t *testing.T) {
	for _, c := range []struct {
		from, got  []int
		n          int
		ready, won bool
	}{
		{nil, nil, 0, false, false}, {nil, nil, 1, false, false}, {nil, nil, -1, true, true},
		{[]int{0}, nil, 1, true, false}, {[]int{0}, []int{0}, 1, true, true}, {nil, []int{0}, 1, false, false},
		{[]int{0}, []int{1}, 2, false, false}, {[]int{0, 1}, []int{1}, 2, true, false}, {[]int{0, 1}, []int{0, 1}, 2, true, true},
		{[]int{2}, []int{0, 1, 2}, 3, false, false}, {[]int{0, 2}, []int{1}, 3, true, false}, {[]int{0, 2}, []int{1, 2}, 3, true, true},
		{[]int{0, 2}, []int{0, 1, 2, 3}, 4, false, false}, {[]int{0, 1, 2}, []int{2, 3}, 4, true, false}, {[]int{0, 1, 2}, []int{1, 2, 3}, 4, true, true},
		{[]int{0, 1, 2, 3}, []int{0, 1, 2, 3}, 7, true, true}, {[]int{0, 1, 2, 3}, []int{0, 1, 2, 3}, 8, false, false},
		{[]int{0, 1, 2, 3}, []int{0, 1, 2, 3}, math.MaxInt, false, false}, {nil, nil, math.MinInt, true, true},
	} {
		p := propOf(9, 1, 0, c.from, c.got)
		if impl.PropReady(p, c.n) != c.ready || impl.PropWon(p, c.n) != c.won {
			t.Errorf("%v of %d is ready: %v, won: %v", p, c.n, impl.PropReady(p, c.n), impl.PropWon(p, c.n))
		}
	}
}

func TestP10ProposersThatAreNotValid(t *testing.T) {
	for _, p := range badProps() {
		for node := -1; node <= impl.MaxNodes; node++ {
			isProp(t, "PropGot", impl.PropGot(p, node), p)
			for _, bal := range []int{-1, 0, 1, 5, p.Best + 1, p.Bal - 1} {
				isProp(t, "PropHear", impl.PropHear(p, node, bal, 3), p)
			}
		}
		for _, n := range []int{math.MinInt, -1, 0, 1, 2, 3, 4} {
			if impl.PropReady(p, n) || impl.PropWon(p, n) {
				t.Errorf("%v of %d is ready or has won", p, n)
			}
		}
	}
}

// watchedProp is a proposer whose lists, and the spare capacity behind them, are watched.
type watchedProp struct {
	p         impl.Prop
	from, got guarded[int]
}

// watchProp puts the last node behind both lists, where it would be valid for most of them, so that a function that reads it is seen.
func watchProp(p impl.Prop) watchedProp {
	w := watchedProp{p, guard(p.From, 3), guard(p.Got, 3)}
	w.p.From, w.p.Got = w.from.arg, w.got.arg
	return w
}

func propsApart(t *testing.T, what string, results []impl.Prop, w watchedProp) {
	t.Helper()
	lists := [][]int{}
	for _, got := range results {
		lists = append(lists, got.From, got.Got)
	}
	apart(t, what, 99, lists, w.from, w.got)
}

func TestP10PropResultsAreNewMemory(t *testing.T) {
	for _, p := range allProps() {
		w := watchProp(p)
		results := []impl.Prop{}
		for node := -1; node <= impl.MaxNodes; node++ {
			hear := impl.PropHear(w.p, node, 1, 3)
			isProp(t, "PropHear", hear, hearModel(p, node, 1, 3))
			got := impl.PropGot(w.p, node)
			isProp(t, "PropGot", got, gotModel(p, node))
			results = append(results, hear, got, impl.PropHear(w.p, node, p.Bal, 3), impl.PropHear(w.p, node, 0, 0))
		}
		propsApart(t, "PropHear and PropGot", results, w)
	}
	for _, b := range []int{0, 1, 9} {
		first, _ := impl.PropNew(b, 1)
		second, _ := impl.PropNew(b, 1)
		propsApart(t, "PropNew", []impl.Prop{first, second}, watchProp(impl.Prop{}))
	}
}

func TestP10PropArgumentsStay(t *testing.T) {
	for _, p := range allProps() {
		w := watchProp(p)
		if impl.PropOk(w.p) != propModel(p) {
			t.Errorf("the memory behind the lists of %v changes PropOk", p)
		}
		for n := range 6 {
			ready := propModel(p) && mostModel(len(p.From), n)
			if impl.PropReady(w.p, n) != ready || impl.PropWon(w.p, n) != (ready && mostModel(len(p.Got), n)) {
				t.Errorf("the memory behind the lists of %v changes whether it is ready or has won", p)
			}
		}
		propsApart(t, "a function of chapter 8", nil, w)
	}
}

// Both lists of an argument may be parts of one array, or even the same memory.
func TestP10PropListsInOneArray(t *testing.T) {
	array := []int{0, 2, 1, 3}
	p := propOf(9, 1, 0, array[0:2], array[2:4])
	isProp(t, "PropHear", impl.PropHear(p, 1, 5, 2), propOf(9, 2, 5, []int{0, 1, 2}, []int{1, 3}))
	isProp(t, "PropHear behind", impl.PropHear(p, 3, 5, 2), propOf(9, 2, 5, []int{0, 2, 3}, []int{1, 3}))
	isProp(t, "PropGot", impl.PropGot(p, 0), propOf(9, 1, 0, []int{0, 2}, []int{0, 1, 3}))
	if !slices.Equal(array, []int{0, 2, 1, 3}) {
		t.Errorf("the array became %v", array)
	}
	nodes := []int{1, 2}
	p = propOf(9, 1, 0, nodes, nodes)
	for _, got := range []impl.Prop{impl.PropHear(p, 0, 0, 0), impl.PropHear(p, 1, 0, 0), impl.PropGot(p, 3), impl.PropGot(p, 2), impl.PropGot(p, -1)} {
		if touch(got.From, got.Got) || touch(got.From, nodes) || touch(got.Got, nodes) {
			t.Errorf("lists in the same memory are not taken apart: %v", got)
		}
	}
}

// Proposers that come from the same one do not see each other's changes.
func TestP10ProposersGrowApart(t *testing.T) {
	base := impl.PropHear(propOf(9, 1, 0, nil, nil), 1, 0, 0)
	a, b, c := impl.PropHear(base, 0, 0, 0), impl.PropHear(base, 2, 5, 3), impl.PropHear(base, 3, 8, 4)
	d, e := impl.PropGot(b, 3), impl.PropGot(b, 0)
	isProp(t, "the base", base, propOf(9, 1, 0, []int{1}, nil))
	isProp(t, "the first", a, propOf(9, 1, 0, []int{0, 1}, nil))
	isProp(t, "the second", b, propOf(9, 3, 5, []int{1, 2}, nil))
	isProp(t, "the third", c, propOf(9, 4, 8, []int{1, 3}, nil))
	isProp(t, "the fourth", d, propOf(9, 3, 5, []int{1, 2}, []int{3}))
	isProp(t, "the fifth", e, propOf(9, 3, 5, []int{1, 2}, []int{0}))
}

// refusesBelow checks that an acceptor accepts nothing in a ballot below b, and promises none up to b.
func refusesBelow(t *testing.T, a impl.Acc, b int) {
	t.Helper()
	for _, c := range append([]int{b - 1, b - 2, b / 2, 1, 0}, oddInts...) {
		if c >= b {
			continue
		}
		for v := 1; v <= impl.MaxNodes; v++ {
			got, ok := impl.AccTake(a, c, v)
			isAcc(t, fmt.Sprintf("AccTake(%v, %d, %d)", a, c, v), got, ok, impl.Acc{}, false)
		}
		got, ok := impl.AccPrep(a, c)
		isAcc(t, fmt.Sprintf("AccPrep(%v, %d)", a, c), got, ok, impl.Acc{}, false)
	}
	got, ok := impl.AccPrep(a, b)
	isAcc(t, fmt.Sprintf("AccPrep(%v, %d)", a, b), got, ok, impl.Acc{}, false)
}

func TestP5PromisedBallotsAreKept(t *testing.T) {
	kept := 0
	for _, a := range goodAccs() {
		for _, b := range around(a.Prom) {
			if now, ok := impl.AccPrep(a, b); ok {
				refusesBelow(t, now, b)
				kept++
			}
			if now, ok := impl.AccTake(a, b, 2); ok {
				refusesBelow(t, now, b)
				kept++
			}
		}
		refusesBelow(t, a, a.Prom)
	}
	if kept < 500 {
		t.Errorf("only %d promises were made", kept)
	}
}

// Every smaller ballot is refused, and every other one is not, with the promise still standing behind it.
func TestP5EverySmallerBallotIsRefused(t *testing.T) {
	for b := 1; b <= 60; b++ {
		a, ok := impl.AccPrep(impl.Acc{}, b)
		isAcc(t, "AccPrep", a, ok, accOf(b, 0, 0), true)
		for c := -5; c <= 65; c++ {
			if _, ok := impl.AccTake(a, c, 1+(b+4)%4); ok != (c >= b) {
				t.Errorf("after a promise of %d, ballot %d is accepted: %v", b, c, ok)
			}
			if _, ok := impl.AccPrep(a, c); ok != (c > b) {
				t.Errorf("after a promise of %d, ballot %d is promised: %v", b, c, ok)
			}
		}
	}
}

// promise is what an acceptor answered to a proposer.
type promise struct {
	sent     bool
	bal, val int
}

// seat is a proposer whose lists are sets of bits, so that it can be compared.
type seat struct {
	bal, val, best int
	from, got      uint8
}

func bits(l []int) uint8 {
	set := uint8(0)
	for _, n := range l {
		set |= 1 << n
	}
	return set
}

func members(set uint8) []int {
	l := []int{}
	for n := range 8 {
		if set>>n&1 == 1 {
			l = append(l, n)
		}
	}
	return l
}

func seatOf(p impl.Prop) seat { return seat{p.Bal, p.Val, p.Best, bits(p.From), bits(p.Got)} }

func (s seat) prop() impl.Prop { return propOf(s.bal, s.val, s.best, members(s.from), members(s.got)) }

// scene is a state of some proposers and acceptors. What was sent once may arrive at any time, never, or repeatedly.
type scene struct {
	accs     [impl.MaxNodes]impl.Acc
	seats    [3]seat
	promises [3][impl.MaxNodes]promise
	taken    [3][impl.MaxNodes]bool
}

// The four steps between a proposer and an acceptor: it is asked, its promise arrives, it is told the choice, and its acceptance arrives. A proposer that is ready hears no further promise, since it has already told its choice.
func (s scene) step(kind int, who int, acc int, n int) scene {
	p := s.seats[who].prop()
	switch kind {
	case 0:
		if now, ok := impl.AccPrep(s.accs[acc], p.Bal); ok {
			s.promises[who][acc] = promise{true, s.accs[acc].Bal, s.accs[acc].Val}
			s.accs[acc] = now
		}
	case 1:
		if said := s.promises[who][acc]; said.sent && !impl.PropReady(p, n) {
			s.seats[who] = seatOf(impl.PropHear(p, acc, said.bal, said.val))
		}
	case 2:
		if impl.PropReady(p, n) {
			now, ok := impl.AccTake(s.accs[acc], p.Bal, p.Val)
			if ok {
				s.accs[acc] = now
				s.taken[who][acc] = true
			}
		}
	case 3:
		if s.taken[who][acc] && impl.PropReady(p, n) {
			s.seats[who] = seatOf(impl.PropGot(p, acc))
		}
	}
	return s
}

// winners returns the choices of the proposers that have won.
func (s scene) winners(n int) []int {
	won := []int{}
	for _, at := range s.seats {
		if p := at.prop(); impl.PropWon(p, n) {
			won = append(won, p.Val)
		}
	}
	return won
}

func startScene(t *testing.T, ballots ...int) scene {
	t.Helper()
	s := scene{}
	for who, b := range ballots {
		p, ok := impl.PropNew(b, 1+who)
		if !ok {
			t.Fatalf("there is no proposer with ballot %d", b)
		}
		s.seats[who] = seatOf(p)
	}
	return s
}

// outcomes counts in how many states nobody, one proposer or several of them have won.
type outcomes [4]int

func (o *outcomes) add(t *testing.T, s scene, n int) {
	t.Helper()
	won := s.winners(n)
	o[len(won)]++
	for _, v := range won {
		if v != won[0] {
			t.Fatalf("proposers have won with the choices %v, in %v", won, s)
		}
	}
}

// everyOrder visits every state that the proposers of these ballots and n acceptors can reach.
func everyOrder(t *testing.T, n int, ballots ...int) outcomes {
	t.Helper()
	start := startScene(t, ballots...)
	seen, work, counts := map[scene]bool{start: true}, []scene{start}, outcomes{}
	for len(work) > 0 {
		now := work[len(work)-1]
		work = work[:len(work)-1]
		counts.add(t, now, n)
		for k := range 4 * len(ballots) * n {
			next := now.step(k%4, k/4%len(ballots), k/4/len(ballots), n)
			if !seen[next] {
				seen[next] = true
				work = append(work, next)
			}
		}
	}
	return counts
}

func TestP5EveryOrder(t *testing.T) {
	for _, c := range []struct {
		n       int
		ballots []int
	}{{1, []int{1, 2}}, {1, []int{3, 1, 2}}, {2, []int{1, 2}}, {2, []int{6, 3}}, {2, []int{2, 7, 4}}, {3, []int{1, 2}}} {
		counts := everyOrder(t, c.n, c.ballots...)
		for won := range len(c.ballots) + 1 {
			if counts[won] == 0 {
				t.Errorf("%d acceptors, ballots %v: there is no state with %d winners", c.n, c.ballots, won)
			}
		}
	}
}

func TestP5RandomOrders(t *testing.T) {
	total := outcomes{}
	for seed := range 2000 {
		r := rand.New(rand.NewSource(int64(seed)))
		n := 2 + seed%3
		ballots := r.Perm(12)[:2+seed/3%2]
		for i := range ballots {
			ballots[i]++
		}
		s, during := startScene(t, ballots...), outcomes{}
		for i := range 80 * n {
			// Most of the time one proposer is ahead, so that several of them come to win.
			who := i * len(ballots) / (80 * n)
			if r.Intn(6) == 0 {
				who = r.Intn(len(ballots))
			}
			s = s.step(r.Intn(4), who, r.Intn(n), n)
			during.add(t, s, n)
		}
		total.add(t, s, n)
	}
	if slices.Min(total[:]) < 15 {
		t.Errorf("the runs ended with 0, 1, 2 and 3 winners %v times", total)
	}
}

// runSteps lets a proposer take these steps with each of the acceptors.
func (s scene) runSteps(who int, accs []int, kinds ...int) scene {
	for _, kind := range kinds {
		for _, acc := range accs {
			s = s.step(kind, who, acc, 3)
		}
	}
	return s
}

// Of two choices that are reported, the one of the greater ballot may have won, and the other has not, in whatever order they are heard.
func TestP5LatestChoiceIsTakenOver(t *testing.T) {
	for _, ballots := range [][]int{{1, 2, 3}, {4, 9, 21}} {
		s := startScene(t, ballots...)
		s = s.runSteps(0, []int{0, 1}, 0, 1)
		s = s.runSteps(0, []int{0}, 2, 3)
		s = s.runSteps(1, []int{1, 2}, 0, 1, 2, 3)
		if won := s.winners(3); !slices.Equal(won, []int{2}) {
			t.Fatalf("the winners are %v, not the second proposer alone", won)
		}
		for _, pair := range [][]int{{0, 1}, {1, 0}, {0, 2}, {2, 0}, {1, 2}, {2, 1}} {
			if won := s.runSteps(2, pair, 0, 1, 2, 3).winners(3); !slices.Equal(won, []int{2, 2}) {
				t.Errorf("with the majority %v, proposers win with the choices %v", pair, won)
			}
		}
	}
}

// assembly is a group of nodes that are acceptors, and that propose again and again with ballots above what they have promised. The proposals before are not forgotten.
type assembly struct {
	accs  []impl.Acc
	props []impl.Prop
	said  []map[int]impl.Acc
	took  []map[int]bool
}

func (g *assembly) begin(t *testing.T, node int) {
	t.Helper()
	b := impl.BallotAbove(g.accs[node].Prom, node)
	p, ok := impl.PropNew(b, node+1)
	if !ok || b <= g.accs[node].Prom || (b-1)%impl.MaxNodes != node {
		t.Fatalf("node %d has no ballot above %d: %d", node, g.accs[node].Prom, b)
	}
	g.props = append(g.props, p)
	g.said = append(g.said, map[int]impl.Acc{})
	g.took = append(g.took, map[int]bool{})
	g.ask(t, len(g.props)-1, node)
}

// follow replaces the state of an acceptor, whose promise and accepted ballot never fall.
func (g *assembly) follow(t *testing.T, node int, now impl.Acc) {
	t.Helper()
	old := g.accs[node]
	if now.Prom < old.Prom || now.Bal < old.Bal || !impl.AccOk(now) {
		t.Fatalf("the acceptor %v became %v", old, now)
	}
	g.accs[node] = now
}

func (g *assembly) ask(t *testing.T, who int, node int) {
	t.Helper()
	if now, ok := impl.AccPrep(g.accs[node], g.props[who].Bal); ok {
		g.said[who][node] = g.accs[node]
		g.follow(t, node, now)
	}
}

func (g *assembly) deliver(t *testing.T, r *rand.Rand, who int, node int) {
	t.Helper()
	n := len(g.accs)
	p := g.props[who]
	if impl.PropReady(p, n) {
		if r.Intn(2) == 0 && g.took[who][node] {
			g.props[who] = impl.PropGot(p, node)
		} else if now, ok := impl.AccTake(g.accs[node], p.Bal, p.Val); ok {
			g.took[who][node] = true
			g.follow(t, node, now)
		}
		return
	}
	if said, ok := g.said[who][node]; ok && r.Intn(2) == 0 {
		g.props[who] = impl.PropHear(p, node, said.Bal, said.Val)
	} else {
		g.ask(t, who, node)
	}
}

// won returns the choices of the proposals that have won, and by which nodes they were made.
func (g *assembly) won() (choices []int, by []int) {
	for _, p := range g.props {
		if impl.PropWon(p, len(g.accs)) {
			choices = append(choices, p.Val)
			by = append(by, (p.Bal-1)%impl.MaxNodes)
		}
	}
	return choices, by
}

func TestP5ProposingAgainAndAgain(t *testing.T) {
	wins, adopted, proposals := 0, 0, 0
	for seed := range 400 {
		r := rand.New(rand.NewSource(int64(seed)))
		n := 1 + seed%impl.MaxNodes
		g := &assembly{accs: make([]impl.Acc, n)}
		for range 300 {
			if len(g.props) == 0 || r.Intn(25) == 0 {
				g.begin(t, r.Intn(n))
			}
			// Late packets of earlier proposals arrive as well, though less often.
			who := max(r.Intn(len(g.props)), r.Intn(len(g.props)), r.Intn(len(g.props)))
			g.deliver(t, r, who, r.Intn(n))
			choices, by := g.won()
			for i, v := range choices {
				if v != choices[0] {
					t.Fatalf("proposals have won with the choices %v", choices)
				}
				if v != by[i]+1 {
					adopted++
				}
			}
			wins += len(choices)
		}
		proposals += len(g.props)
	}
	if wins < 1000 || adopted < 1000 || proposals < 3000 {
		t.Errorf("the runs had only %d proposals, %d wins and %d with the choice of another node", proposals, wins, adopted)
	}
}

// A choice that may have won is found by every later proposer, whichever majority answers it.
func TestP5LaterProposerTakesTheChoiceOver(t *testing.T) {
	first, _ := impl.PropNew(5, 2)
	accs := make([]impl.Acc, 3)
	for i := range 2 {
		accs[i], _ = impl.AccPrep(accs[i], first.Bal)
		first = impl.PropHear(first, i, 0, 0)
	}
	for i := range 2 {
		accs[i], _ = impl.AccTake(accs[i], first.Bal, first.Val)
		first = impl.PropGot(first, i)
	}
	if !impl.PropWon(first, 3) || first.Val != 2 {
		t.Fatalf("the first proposer has not won: %v", first)
	}
	for _, pair := range [][]int{{0, 1}, {1, 0}, {0, 2}, {2, 0}, {1, 2}, {2, 1}} {
		second, _ := impl.PropNew(7, 3)
		for _, i := range pair {
			now, ok := impl.AccPrep(accs[i], second.Bal)
			isAcc(t, "AccPrep", now, ok, accOf(7, accs[i].Bal, accs[i].Val), true)
			second = impl.PropHear(second, i, now.Bal, now.Val)
			if _, ok := impl.AccTake(now, first.Bal, first.Val); ok {
				t.Errorf("an acceptor that promised 7 accepts ballot 5")
			}
		}
		if !impl.PropReady(second, 3) || second.Val != 2 || second.Best != 5 {
			t.Errorf("the majority %v leaves the second proposer %v", pair, second)
		}
	}
}
