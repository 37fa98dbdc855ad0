package tests

import (
	"math"
	"math/big"
	"math/rand"
	"slices"
	"testing"

	"loop.example/g00801/impl"
)

func rightsOf(spent []int, rows ...[]int) impl.Rights { return impl.Rights{Give: rows, Spent: spent} }

func cloneRights(r impl.Rights) impl.Rights {
	rows := [][]int{}
	for _, row := range r.Give {
		rows = append(rows, slices.Clone(row))
	}
	return impl.Rights{Give: rows, Spent: slices.Clone(r.Spent)}
}

// zeros builds what RightsNew returns, without it.
func zeros(n int) impl.Rights {
	rows := [][]int{}
	for range n {
		rows = append(rows, make([]int, n))
	}
	return impl.Rights{Give: rows, Spent: make([]int, n)}
}

// counter returns the place of one element: of Spent if i is behind the rows, and of Give otherwise.
func counter(r impl.Rights, i int, j int) *int {
	if i == len(r.Give) {
		return &r.Spent[j]
	}
	return &r.Give[i][j]
}

func changed(r impl.Rights, i int, j int, value int) impl.Rights {
	other := cloneRights(r)
	*counter(other, i, j) = value
	return other
}

// eachCounter calls f with the place of every element of Rights of n nodes; a row number of n means Spent.
func eachCounter(n int, f func(i int, j int)) {
	for i := range n + 1 {
		for j := range n {
			f(i, j)
		}
	}
}

func equalRights(a impl.Rights, b impl.Rights) bool {
	if len(a.Give) != len(b.Give) || !slices.Equal(a.Spent, b.Spent) {
		return false
	}
	for i, row := range a.Give {
		if !slices.Equal(row, b.Give[i]) {
			return false
		}
	}
	return true
}

// accounts follows every total to the nodes that it moves between, in numbers that do not overflow.
func accounts(r impl.Rights) ([]*big.Int, *big.Int) {
	issued, has := new(big.Int), []*big.Int{}
	for range r.Give {
		has = append(has, new(big.Int))
	}
	for from, row := range r.Give {
		for to, n := range row {
			amount := big.NewInt(int64(n))
			has[to].Add(has[to], amount)
			if from == to {
				issued.Add(issued, amount)
			} else {
				has[from].Sub(has[from], amount)
			}
		}
	}
	for i, n := range r.Spent {
		has[i].Sub(has[i], big.NewInt(int64(n)))
	}
	return has, issued
}

func numberModel(n int) bool { return n >= 0 && n <= impl.MaxNum }

func shapeModel(r impl.Rights) bool {
	n := len(r.Give)
	good := n >= 1 && n <= 4 && len(r.Spent) == n
	for _, row := range r.Give {
		good = good && len(row) == n
	}
	return good
}

func rightsModel(r impl.Rights) bool {
	if !shapeModel(r) {
		return false
	}
	good := true
	eachCounter(len(r.Give), func(i int, j int) { good = good && numberModel(*counter(r, i, j)) })
	has, issued := accounts(r)
	for _, n := range has {
		good = good && n.Sign() >= 0
	}
	return good && issued.Cmp(big.NewInt(impl.MaxNum)) <= 0
}

func balanceModel(r impl.Rights, i int) int {
	if !rightsModel(r) || i < 0 || i >= len(r.Give) {
		return 0
	}
	has, _ := accounts(r)
	return int(has[i].Int64())
}

func allModel(r impl.Rights) int {
	sum := 0
	for i := range r.Give {
		sum += balanceModel(r, i)
	}
	return sum
}

func laterModel(a impl.Rights, b impl.Rights) bool {
	if !rightsModel(a) || !rightsModel(b) || len(a.Give) != len(b.Give) {
		return false
	}
	later := true
	eachCounter(len(a.Give), func(i int, j int) { later = later && *counter(a, i, j) <= *counter(b, i, j) })
	return later
}

func meetModel(a impl.Rights, b impl.Rights) (impl.Rights, bool) {
	if !rightsModel(a) || !rightsModel(b) || len(a.Give) != len(b.Give) {
		return impl.Rights{}, false
	}
	met := cloneRights(a)
	eachCounter(len(a.Give), func(i int, j int) {
		if *counter(b, i, j) > *counter(a, i, j) {
			*counter(met, i, j) = *counter(b, i, j)
		}
	})
	if !rightsModel(met) {
		return impl.Rights{}, false
	}
	return met, true
}

// growModel adds amt to one element; row len(r.Give) stands for Spent.
func growModel(r impl.Rights, row int, column int, amt int) (impl.Rights, bool) {
	if !rightsModel(r) || amt < 1 || amt > 1000000000 {
		return impl.Rights{}, false
	}
	grown := changed(r, row, column, *counter(r, row, column)+amt)
	if !rightsModel(grown) {
		return impl.Rights{}, false
	}
	return grown, true
}

func isRights(t *testing.T, what string, got impl.Rights, ok bool, want impl.Rights, wantOk bool) {
	t.Helper()
	if ok != wantOk || !equalRights(got, want) {
		t.Errorf("%s: got %v, %v, want %v, %v", what, got, ok, want, wantOk)
	}
}

func isNoRights(t *testing.T, what string, got impl.Rights, ok bool) {
	t.Helper()
	isRights(t, what, got, ok, impl.Rights{}, false)
}

// busyRights holds n nodes all of whose elements differ.
func busyRights(n int) impl.Rights {
	r := zeros(n)
	for i := range n {
		for j := range n {
			r.Give[i][j] = 10*i + j + 1
		}
		r.Give[i][i] = 1000 * (i + 1)
		r.Spent[i] = 100 * (i + 1)
	}
	return r
}

// largeRights holds elements at MaxNum: everything was issued to node 0, and went around all nodes.
func largeRights(n int) impl.Rights {
	r := zeros(n)
	r.Give[0][0] = impl.MaxNum
	for i := 1; i < n; i++ {
		r.Give[i-1][i] = impl.MaxNum
	}
	r.Spent[n-1] = impl.MaxNum
	return r
}

func goodRights() []impl.Rights {
	l := []impl.Rights{
		rightsOf([]int{0}, []int{impl.MaxNum}),
		rightsOf([]int{impl.MaxNum}, []int{impl.MaxNum}),
		rightsOf([]int{0, 0}, []int{impl.MaxNum - 1, 0}, []int{0, 1}),
		rightsOf([]int{0, 0}, []int{0, 7}, []int{7, 0}),
		rightsOf([]int{0, 0}, []int{0, impl.MaxNum}, []int{impl.MaxNum, 0}),
		rightsOf([]int{3, 3}, []int{10, 4}, []int{0, 0}),
		rightsOf([]int{5, 0, 1}, []int{9, 1, 2}, []int{0, 0, 1}, []int{0, 0, 0}),
	}
	for n := 1; n <= impl.MaxNodes; n++ {
		l = append(l, zeros(n), busyRights(n), largeRights(n))
	}
	return l
}

// misshapen holds Rights in which one part has the wrong number of elements, and all elements are numbers.
func misshapen() []impl.Rights {
	l := []impl.Rights{{}, rightsOf([]int{}, [][]int{}...), rightsOf([]int{0}), rightsOf(nil, []int{0}), rightsOf(nil, []int{}), rightsOf(nil, nil)}
	for _, n := range []int{5, 6, 8, 40} {
		l = append(l, zeros(n))
	}
	for n := 1; n <= impl.MaxNodes; n++ {
		r := busyRights(n)
		l = append(l,
			rightsOf(r.Spent, append(slices.Clone(r.Give), make([]int, n))...),
			rightsOf(r.Spent, append(slices.Clone(r.Give), make([]int, n+1))...),
			rightsOf(r.Spent, append(slices.Clone(r.Give), nil)...),
			rightsOf(r.Spent, r.Give[:n-1]...),
			rightsOf(r.Spent, r.Give[1:]...),
			rightsOf(r.Spent),
			rightsOf(append(slices.Clone(r.Spent), 0), r.Give...),
			rightsOf(r.Spent[:n-1], r.Give...),
			rightsOf(nil, r.Give...),
			rightsOf(make([]int, 100), r.Give...),
		)
		for i := range n {
			for _, row := range [][]int{nil, {}, make([]int, n-1), make([]int, n+1), make([]int, 9), append(slices.Clone(r.Give[i]), 0), r.Give[i][:n-1]} {
				if len(row) != n {
					l = append(l, rightsOf(r.Spent, slices.Replace(slices.Clone(r.Give), i, i+1, row)...))
				}
			}
		}
	}
	return l
}

// badCounters holds Rights with one element that is not a number, wherever it stands.
func badCounters() []impl.Rights {
	l := []impl.Rights{}
	for n := 1; n <= impl.MaxNodes; n++ {
		for _, base := range []impl.Rights{zeros(n), busyRights(n)} {
			for _, value := range oddInts {
				eachCounter(n, func(i int, j int) { l = append(l, changed(base, i, j, value)) })
			}
		}
	}
	return l
}

// overdrawn holds Rights in which a balance is negative, or in which too much was issued.
func overdrawn() []impl.Rights {
	return []impl.Rights{
		rightsOf([]int{1}, []int{0}),
		rightsOf([]int{impl.MaxNum}, []int{impl.MaxNum - 1}),
		rightsOf([]int{impl.MaxNum}, []int{0}),
		rightsOf([]int{0, 0}, []int{4, 5}, []int{0, 0}),
		rightsOf([]int{0, 0}, []int{0, 0}, []int{5, 4}),
		rightsOf([]int{4, 4}, []int{10, 3}, []int{0, 0}),
		rightsOf([]int{0, 0}, []int{0, impl.MaxNum}, []int{0, 0}),
		rightsOf([]int{0, 0}, []int{impl.MaxNum, 0}, []int{0, 1}),
		rightsOf([]int{0, impl.MaxNum}, []int{1, 0}, []int{0, impl.MaxNum}),
		rightsOf([]int{1, 0, 0}, []int{0, 0, 0}, []int{0, 5, 0}, []int{0, 0, 5}),
		rightsOf([]int{0, 1, 0}, []int{5, 0, 0}, []int{0, 0, 0}, []int{0, 0, 5}),
		rightsOf([]int{0, 0, 1}, []int{5, 0, 0}, []int{0, 5, 0}, []int{0, 0, 0}),
		rightsOf([]int{0, 0, 0}, []int{impl.MaxNum, 0, 0}, []int{0, impl.MaxNum, 0}, []int{0, 0, impl.MaxNum}),
	}
}

func badRights() []impl.Rights { return slices.Concat(misshapen(), badCounters(), overdrawn()) }

func allRights() []impl.Rights { return append(goodRights(), badRights()...) }

func nodeSamples() []int { return append([]int{0, 1, 2, 3, 4, 5, 1 << 32}, oddInts...) }

func amountSamples() []int {
	return append([]int{0, 1, 2, 3, impl.MaxAmt - 1, impl.MaxAmt, impl.MaxAmt + 1, impl.MaxNum - 1, impl.MaxNum}, oddInts...)
}

// smallRights calls f with Rights of two nodes for every choice of elements below most.
func smallRights(most int, f func(r impl.Rights)) {
	count := 1
	for range 6 {
		count *= most
	}
	for code := range count {
		r := zeros(2)
		eachCounter(2, func(i int, j int) {
			*counter(r, i, j) = code % most
			code /= most
		})
		f(r)
	}
}

func TestP10RightsNew(t *testing.T) {
	for n := 1; n <= impl.MaxNodes; n++ {
		got := impl.RightsNew(n)
		isRights(t, "RightsNew", got, impl.RightsOk(got), zeros(n), true)
		if impl.AllOf(got) != 0 {
			t.Errorf("RightsNew(%d) has a balance", n)
		}
	}
	for _, n := range append([]int{0, 5, 6, 1000, 1 << 32, 1<<32 + 1}, oddInts...) {
		isNoRights(t, "RightsNew", impl.RightsNew(n), false)
	}
}

func TestP10RightsOkExamples(t *testing.T) {
	for _, r := range goodRights() {
		if !impl.RightsOk(r) {
			t.Errorf("RightsOk(%v) is false", r)
		}
	}
	for _, r := range badRights() {
		if impl.RightsOk(r) {
			t.Errorf("RightsOk(%v) is true", r)
		}
	}
}

// One element at an edge, wherever it stands, and whatever balance it leaves.
func TestP10RightsOkAtEveryCounter(t *testing.T) {
	values := append([]int{0, 1, 99, 100, 101, 999, 1000, 1001, impl.MaxNum - 1, impl.MaxNum}, oddInts...)
	for _, base := range goodRights() {
		eachCounter(len(base.Give), func(i int, j int) {
			at := *counter(base, i, j)
			for _, value := range append([]int{at - 1, at + 1}, values...) {
				r := changed(base, i, j, value)
				if want := rightsModel(r); impl.RightsOk(r) != want {
					t.Errorf("RightsOk(%v) is %v", r, !want)
				}
			}
		})
	}
}

// Two elements at edges: their sums may be issued too much, overdraw a node, or overflow.
func TestP10RightsOkAtTwoCounters(t *testing.T) {
	values := []int{math.MinInt, -impl.MaxNum, -1, 0, 1, impl.MaxNum - 1, impl.MaxNum, impl.MaxNum + 1, 1 << 62, math.MaxInt}
	for _, base := range []impl.Rights{zeros(2), busyRights(2), zeros(3), largeRights(2)} {
		n := len(base.Give)
		eachCounter(n, func(i int, j int) {
			eachCounter(n, func(k int, l int) {
				for _, first := range values {
					for _, second := range values {
						r := changed(changed(base, i, j, first), k, l, second)
						if want := rightsModel(r); impl.RightsOk(r) != want {
							t.Fatalf("RightsOk(%v) is %v", r, !want)
						}
					}
				}
			})
		})
	}
}

// All elements are equal and far beyond a number: every sum of them wraps around.
func TestP10RightsOkWrappedSums(t *testing.T) {
	for n := 1; n <= impl.MaxNodes; n++ {
		for _, value := range append([]int{impl.MaxNum, 1 << 61, 1 << 63 / 3}, oddInts...) {
			r := zeros(n)
			eachCounter(n, func(i int, j int) { *counter(r, i, j) = value })
			if want := rightsModel(r); impl.RightsOk(r) != want {
				t.Errorf("RightsOk(%v) is %v", r, !want)
			}
		}
	}
}

func TestP10RightsOfIssuedSums(t *testing.T) {
	for n := 1; n <= impl.MaxNodes; n++ {
		r := zeros(n)
		rest := impl.MaxNum
		for i := range n {
			r.Give[i][i] = rest / 2
			rest -= rest / 2
		}
		r.Give[n-1][n-1] += rest
		if !impl.RightsOk(r) || impl.AllOf(r) != impl.MaxNum {
			t.Errorf("%v, which was issued MaxNum, is not valid, or has %d", r, impl.AllOf(r))
		}
		for i := range n {
			more := changed(r, i, i, r.Give[i][i]+1)
			if impl.RightsOk(more) || impl.AllOf(more) != 0 {
				t.Errorf("%v, which was issued one more than MaxNum, is valid", more)
			}
			got, ok := impl.Mint(r, i, 1)
			isNoRights(t, "Mint beyond MaxNum", got, ok)
			less := changed(r, i, i, r.Give[i][i]-1)
			got, ok = impl.Mint(less, i, 1)
			isRights(t, "Mint up to MaxNum", got, ok, r, true)
			got, ok = impl.Mint(less, i, 2)
			isNoRights(t, "Mint beyond MaxNum", got, ok)
		}
	}
}

// What was spent does not make room for what is issued: the totals only grow.
func TestP10RightsIssuedAndSpent(t *testing.T) {
	r := rightsOf([]int{impl.MaxNum, 0}, []int{impl.MaxNum, 0}, []int{0, 0})
	if !impl.RightsOk(r) || impl.AllOf(r) != 0 {
		t.Errorf("%v is not valid, or has %d", r, impl.AllOf(r))
	}
	for i := range 2 {
		got, ok := impl.Mint(r, i, 1)
		isNoRights(t, "Mint", got, ok)
	}
}

// An element stays a number even if no balance and no sum forbids more.
func TestP10HandedTotalsStayNumbers(t *testing.T) {
	r := rightsOf([]int{0, 0}, []int{10, impl.MaxNum}, []int{impl.MaxNum, 10})
	for _, amt := range []int{1, 2, 10} {
		got, ok := impl.Hand(r, 0, 1, amt)
		isNoRights(t, "Hand beyond MaxNum", got, ok)
		got, ok = impl.Hand(r, 1, 0, amt)
		isNoRights(t, "Hand beyond MaxNum", got, ok)
	}
	r = rightsOf([]int{0, 0}, []int{10, impl.MaxNum - 3}, []int{impl.MaxNum - 3, 10})
	got, ok := impl.Hand(r, 0, 1, 3)
	isRights(t, "Hand up to MaxNum", got, ok, rightsOf([]int{0, 0}, []int{10, impl.MaxNum}, []int{impl.MaxNum - 3, 10}), true)
	got, ok = impl.Hand(r, 0, 1, 4)
	isNoRights(t, "Hand beyond MaxNum", got, ok)
}

func TestP10HasOfExamples(t *testing.T) {
	r := rightsOf([]int{5, 0, 1}, []int{90, 11, 22}, []int{3, 40, 1}, []int{0, 8, 0})
	for i, want := range []int{90 + 3 - 11 - 22 - 5, 40 + 11 + 8 - 3 - 1, 22 + 1 - 8 - 1} {
		if got := impl.HasOf(r, i); got != want {
			t.Errorf("HasOf(%v, %d) = %d, want %d", r, i, got, want)
		}
	}
	if got := impl.AllOf(r); got != 90+40-5-1 {
		t.Errorf("AllOf(%v) = %d", r, got)
	}
}

func TestP10HasOfAndAllOf(t *testing.T) {
	for _, r := range allRights() {
		if got, want := impl.AllOf(r), allModel(r); got != want {
			t.Errorf("AllOf(%v) = %d, want %d", r, got, want)
		}
		for _, i := range append(nodeSamples(), len(r.Give), len(r.Give)-1) {
			if got, want := impl.HasOf(r, i), balanceModel(r, i); got != want {
				t.Errorf("HasOf(%v, %d) = %d, want %d", r, i, got, want)
			}
		}
	}
}

func TestP10SmallRights(t *testing.T) {
	smallRights(4, func(r impl.Rights) {
		if want := rightsModel(r); impl.RightsOk(r) != want {
			t.Fatalf("RightsOk(%v) is %v", r, !want)
		}
		if impl.AllOf(r) != allModel(r) || impl.HasOf(r, 0) != balanceModel(r, 0) || impl.HasOf(r, 1) != balanceModel(r, 1) {
			t.Fatalf("the balances of %v are %d and %d, together %d", r, impl.HasOf(r, 0), impl.HasOf(r, 1), impl.AllOf(r))
		}
	})
}

func isNodeOf(r impl.Rights, i int) bool { return i >= 0 && i < len(r.Give) }

// changesAt compares Mint and Spend at i, and Hand from i to every node, with the model.
func changesAt(t *testing.T, r impl.Rights, i int, amt int) {
	t.Helper()
	want, fine := impl.Rights{}, false
	if isNodeOf(r, i) && shapeModel(r) {
		want, fine = growModel(r, i, i, amt)
	}
	got, ok := impl.Mint(r, i, amt)
	isRights(t, "Mint", got, ok, want, fine)
	want, fine = impl.Rights{}, false
	if isNodeOf(r, i) && shapeModel(r) {
		want, fine = growModel(r, len(r.Give), i, amt)
	}
	got, ok = impl.Spend(r, i, amt)
	isRights(t, "Spend", got, ok, want, fine)
	for _, j := range append(nodeSamples(), i) {
		want, fine = impl.Rights{}, false
		if isNodeOf(r, i) && isNodeOf(r, j) && i != j && shapeModel(r) {
			want, fine = growModel(r, i, j, amt)
		}
		got, ok = impl.Hand(r, i, j, amt)
		isRights(t, "Hand", got, ok, want, fine)
	}
}

func TestP10MintSpendAndHand(t *testing.T) {
	for _, r := range goodRights() {
		for _, i := range nodeSamples() {
			amounts := amountSamples()
			if isNodeOf(r, i) {
				has := balanceModel(r, i)
				amounts = append(amounts, has-1, has, has+1)
			}
			for _, amt := range amounts {
				changesAt(t, r, i, amt)
			}
		}
	}
}

func TestP10ChangesOfRightsThatAreNotValid(t *testing.T) {
	for _, r := range badRights() {
		for _, i := range []int{0, 1, 3, 4, -1, len(r.Give), math.MaxInt, math.MinInt} {
			for _, amt := range []int{0, 1, 5, impl.MaxAmt, -1} {
				got, ok := impl.Mint(r, i, amt)
				isNoRights(t, "Mint", got, ok)
				got, ok = impl.Spend(r, i, amt)
				isNoRights(t, "Spend", got, ok)
				for j := -1; j <= impl.MaxNodes; j++ {
					got, ok = impl.Hand(r, i, j, amt)
					isNoRights(t, "Hand", got, ok)
				}
			}
		}
	}
}

// A change may not repair Rights that are not valid.
func TestP10NoChangeRepairs(t *testing.T) {
	r := rightsOf([]int{1, 0}, []int{0, 0}, []int{0, 5})
	got, ok := impl.Mint(r, 0, 1)
	isNoRights(t, "Mint", got, ok)
	got, ok = impl.Hand(r, 1, 0, 1)
	isNoRights(t, "Hand", got, ok)
	r = rightsOf([]int{-1, 0}, []int{0, 0}, []int{0, 0})
	got, ok = impl.Spend(r, 0, 1)
	isNoRights(t, "Spend", got, ok)
	r = rightsOf([]int{0, 0}, []int{-1, 0}, []int{0, 5})
	got, ok = impl.Mint(r, 0, 1)
	isNoRights(t, "Mint", got, ok)
	got, ok = impl.Meet(r, rightsOf([]int{0, 0}, []int{5, 0}, []int{0, 5}))
	isNoRights(t, "Meet", got, ok)
}

func TestP10HandToItself(t *testing.T) {
	for _, r := range goodRights() {
		for i := range r.Give {
			got, ok := impl.Hand(r, i, i, 1)
			isNoRights(t, "Hand to itself", got, ok)
		}
	}
}

func TestP8WholeBalances(t *testing.T) {
	for n := 2; n <= impl.MaxNodes; n++ {
		for i := range n {
			for _, has := range []int{1, 2, 7, impl.MaxAmt - 1, impl.MaxAmt} {
				r := changed(zeros(n), i, i, has)
				spent, ok := impl.Spend(r, i, has)
				isRights(t, "spending everything", spent, ok, changed(r, n, i, has), true)
				handed, ok := impl.Hand(r, i, (i+1)%n, has)
				isRights(t, "handing everything", handed, ok, changed(r, i, (i+1)%n, has), true)
				if impl.HasOf(spent, i) != 0 || impl.HasOf(handed, i) != 0 || impl.HasOf(handed, (i+1)%n) != has {
					t.Errorf("a balance of %d leaves %v and %v", has, spent, handed)
				}
				got, ok := impl.Spend(r, i, has+1)
				isNoRights(t, "spending one more", got, ok)
				got, ok = impl.Hand(r, i, (i+1)%n, has+1)
				isNoRights(t, "handing one more", got, ok)
				for _, empty := range []impl.Rights{spent, handed} {
					got, ok = impl.Spend(empty, i, 1)
					isNoRights(t, "spending from nothing", got, ok)
					got, ok = impl.Hand(empty, i, (i+1)%n, 1)
					isNoRights(t, "handing from nothing", got, ok)
				}
			}
		}
	}
}

// What a node was handed it can hand on and spend.
func TestP8HandedOn(t *testing.T) {
	r := impl.RightsNew(3)
	for _, step := range []struct {
		from, to, amt int
		fine          bool
		has           [3]int
	}{
		{0, 0, 10, true, [3]int{10, 0, 0}},
		{1, 2, 1, false, [3]int{10, 0, 0}},
		{0, 1, 4, true, [3]int{6, 4, 0}},
		{1, 2, 5, false, [3]int{6, 4, 0}},
		{1, 2, 4, true, [3]int{6, 0, 4}},
		{2, 0, 3, true, [3]int{9, 0, 1}},
		{0, 1, 10, false, [3]int{9, 0, 1}},
		{0, 1, 9, true, [3]int{0, 9, 1}},
		{1, 3, 9, true, [3]int{0, 0, 1}},
		{1, 3, 1, false, [3]int{0, 0, 1}},
	} {
		got, ok := impl.Rights{}, false
		switch {
		case step.to == step.from:
			got, ok = impl.Mint(r, step.from, step.amt)
		case step.to == 3:
			got, ok = impl.Spend(r, step.from, step.amt)
		default:
			got, ok = impl.Hand(r, step.from, step.to, step.amt)
		}
		if ok != step.fine {
			t.Fatalf("%v: %v", step, ok)
		}
		if ok {
			r = got
		}
		if has := [3]int{impl.HasOf(r, 0), impl.HasOf(r, 1), impl.HasOf(r, 2)}; has != step.has {
			t.Fatalf("%v: the balances are %v", step, has)
		}
	}
}

func comparesAs(t *testing.T, a impl.Rights, b impl.Rights) {
	t.Helper()
	if want := laterModel(a, b); impl.Later(a, b) != want {
		t.Errorf("Later(%v, %v) is %v", a, b, !want)
	}
	want, fine := meetModel(a, b)
	got, ok := impl.Meet(a, b)
	isRights(t, "Meet", got, ok, want, fine)
	if want := equalRights(a, b); impl.RightsSame(a, b) != want {
		t.Errorf("RightsSame(%v, %v) is %v", a, b, !want)
	}
}

func TestP10LaterExamples(t *testing.T) {
	for _, r := range goodRights() {
		if !impl.Later(r, r) || !impl.Later(r, cloneRights(r)) || !impl.Later(zeros(len(r.Give)), r) {
			t.Errorf("%v is not later than itself, or than nothing", r)
		}
		eachCounter(len(r.Give), func(i int, j int) {
			more := changed(r, i, j, *counter(r, i, j)+1)
			if want := rightsModel(more); impl.Later(r, more) != want || impl.Later(more, r) {
				t.Errorf("%v and %v are in the wrong order", r, more)
			}
		})
	}
	a, b := changed(busyRights(2), 0, 0, 5000), changed(busyRights(2), 1, 1, 5000)
	if impl.Later(a, b) || impl.Later(b, a) {
		t.Error("one of two is later, though neither is")
	}
}

func TestP10MeetExamples(t *testing.T) {
	a := rightsOf([]int{1, 2}, []int{10, 3}, []int{0, 7})
	b := rightsOf([]int{0, 4}, []int{12, 2}, []int{1, 6})
	want := rightsOf([]int{1, 4}, []int{12, 3}, []int{1, 7})
	for _, pair := range [][2]impl.Rights{{a, b}, {b, a}, {want, a}, {b, want}, {want, want}} {
		got, ok := impl.Meet(pair[0], pair[1])
		isRights(t, "Meet", got, ok, want, true)
	}
}

// Each of the two is valid, but together they overdraw a node or were issued too much.
func TestP10MeetThatIsNotValid(t *testing.T) {
	for _, pair := range [][2]impl.Rights{
		{rightsOf([]int{0, 0}, []int{10, 10}, []int{0, 0}), rightsOf([]int{10, 0}, []int{10, 0}, []int{0, 0})},
		{rightsOf([]int{0, 0}, []int{10, 6}, []int{0, 0}), rightsOf([]int{5, 0}, []int{10, 0}, []int{0, 0})},
		{rightsOf([]int{0, 0, 0}, []int{9, 9, 0}, []int{0, 0, 0}, []int{0, 0, 0}), rightsOf([]int{0, 0, 0}, []int{9, 0, 1}, []int{0, 0, 0}, []int{0, 0, 0})},
		{rightsOf([]int{0, 0}, []int{impl.MaxNum, 0}, []int{0, 0}), rightsOf([]int{0, 0}, []int{0, 0}, []int{0, 1})},
		{rightsOf([]int{0, 0}, []int{impl.MaxNum, 0}, []int{0, 0}), rightsOf([]int{0, 0}, []int{0, 0}, []int{0, impl.MaxNum})},
	} {
		for _, r := range pair {
			if !impl.RightsOk(r) {
				t.Fatalf("%v is not valid", r)
			}
		}
		got, ok := impl.Meet(pair[0], pair[1])
		isNoRights(t, "Meet", got, ok)
		got, ok = impl.Meet(pair[1], pair[0])
		isNoRights(t, "Meet", got, ok)
	}
	a := rightsOf([]int{0, 0}, []int{10, 5}, []int{0, 0})
	b := rightsOf([]int{5, 0}, []int{10, 0}, []int{0, 0})
	got, ok := impl.Meet(a, b)
	isRights(t, "Meet with a balance of 0", got, ok, rightsOf([]int{5, 0}, []int{10, 5}, []int{0, 0}), true)
	a = rightsOf([]int{0, 0}, []int{impl.MaxNum - 1, 0}, []int{0, 0})
	b = rightsOf([]int{0, 0}, []int{0, 0}, []int{0, 1})
	got, ok = impl.Meet(a, b)
	isRights(t, "Meet with MaxNum issued", got, ok, rightsOf([]int{0, 0}, []int{impl.MaxNum - 1, 0}, []int{0, 1}), true)
}

func TestP10NumbersOfNodesDiffer(t *testing.T) {
	for m := 1; m <= impl.MaxNodes; m++ {
		for n := 1; n <= impl.MaxNodes; n++ {
			if m == n {
				continue
			}
			a, b := zeros(m), zeros(n)
			got, ok := impl.Meet(a, b)
			isNoRights(t, "Meet of different numbers of nodes", got, ok)
			if impl.Later(a, b) || impl.RightsSame(a, b) {
				t.Errorf("%d and %d nodes are compared", m, n)
			}
		}
	}
}

func TestP10LaterMeetAndSame(t *testing.T) {
	l := append(goodRights(), append(misshapen()[:60], overdrawn()...)...)
	for _, a := range l {
		for _, b := range l {
			comparesAs(t, a, b)
		}
	}
	for _, bad := range badRights() {
		comparesAs(t, bad, bad)
		for n := 1; n <= impl.MaxNodes; n++ {
			comparesAs(t, bad, largeRights(n))
			comparesAs(t, zeros(n), bad)
		}
	}
}

func TestP10SmallPairs(t *testing.T) {
	valid := []impl.Rights{}
	smallRights(3, func(r impl.Rights) {
		if rightsModel(r) {
			valid = append(valid, r)
		}
	})
	for i, a := range valid {
		// Every pair would take long; the strides leave none of the elements out.
		for j := i % 3; j < len(valid); j += 3 {
			comparesAs(t, a, valid[j])
		}
	}
}

func sameRightsBothWays(t *testing.T, a impl.Rights, b impl.Rights, want bool) {
	t.Helper()
	if impl.RightsSame(a, b) != want || impl.RightsSame(b, a) != want {
		t.Errorf("%v and %v are not told to be equal: %v", a, b, want)
	}
}

func TestP10RightsSame(t *testing.T) {
	for _, r := range append(goodRights(), append(misshapen(), overdrawn()...)...) {
		sameRightsBothWays(t, r, r, true)
		sameRightsBothWays(t, r, cloneRights(r), true)
		for i, row := range r.Give {
			for j, value := range row {
				sameRightsBothWays(t, r, changed(r, i, j, value+1), false)
				sameRightsBothWays(t, r, changed(r, i, j, value^1<<40), false)
			}
			other := cloneRights(r)
			other.Give[i] = append(other.Give[i], 0)
			sameRightsBothWays(t, r, other, false)
			if len(row) > 0 {
				other.Give[i] = slices.Clone(row[:len(row)-1])
				sameRightsBothWays(t, r, other, false)
			}
		}
		for i, value := range r.Spent {
			other := cloneRights(r)
			other.Spent[i] = -1 - value
			sameRightsBothWays(t, r, other, false)
		}
		sameRightsBothWays(t, r, rightsOf(r.Spent, append(slices.Clone(r.Give), nil)...), false)
		sameRightsBothWays(t, r, rightsOf(r.Spent, append(slices.Clone(r.Give), make([]int, len(r.Give)))...), false)
		sameRightsBothWays(t, r, rightsOf(append(slices.Clone(r.Spent), 0), r.Give...), false)
		if len(r.Give) > 0 {
			sameRightsBothWays(t, r, rightsOf(r.Spent, r.Give[1:]...), false)
			sameRightsBothWays(t, r, rightsOf(r.Spent, r.Give[:len(r.Give)-1]...), false)
		}
	}
}

func TestP10RightsSameExamples(t *testing.T) {
	sameRightsBothWays(t, impl.Rights{}, impl.Rights{Give: [][]int{}, Spent: []int{}}, true)
	sameRightsBothWays(t, rightsOf(nil, nil, nil), rightsOf(nil, []int{}, nil), true)
	sameRightsBothWays(t, rightsOf(nil, nil), rightsOf(nil), false)
	sameRightsBothWays(t, rightsOf(nil, []int{-1}), rightsOf(nil, []int{-1}), true)
	sameRightsBothWays(t, rightsOf(nil, []int{math.MinInt}), rightsOf(nil, []int{math.MaxInt}), false)
	sameRightsBothWays(t, rightsOf(nil, []int{1, 2}, []int{3}), rightsOf(nil, []int{1}, []int{2, 3}), false)
	sameRightsBothWays(t, rightsOf([]int{0}, []int{0}), rightsOf([]int{0, 0}, []int{0, 0}, []int{0, 0}), false)
	sameRightsBothWays(t, rightsOf(nil, []int{5}), rightsOf([]int{5}), false)
	sameRightsBothWays(t, zeros(9), zeros(9), true)
	sameRightsBothWays(t, zeros(9), changed(zeros(9), 8, 8, 1), false)
	sameRightsBothWays(t, zeros(9), changed(zeros(9), 9, 8, 1), false)
}

// Every change that is possible keeps to what it states, and none makes a balance negative.
func TestP8NoBalanceBecomesNegative(t *testing.T) {
	changes, refusals := 0, 0
	for seed := range 60 {
		r := rand.New(rand.NewSource(int64(seed)))
		n := 1 + seed%impl.MaxNodes
		now := impl.RightsNew(n)
		for range 400 {
			next, ok := randomChange(t, r, now)
			if ok {
				changes++
				now = next
			} else {
				refusals++
			}
			for i := range n {
				if impl.HasOf(now, i) < 0 || impl.HasOf(now, i) != balanceModel(now, i) {
					t.Fatalf("node %d of %v has %d", i, now, impl.HasOf(now, i))
				}
			}
		}
	}
	if changes < 5000 || refusals < 500 {
		t.Errorf("the runs had only %d changes and %d refusals", changes, refusals)
	}
}

// moved checks that a change moves amt from one node to another, where -1 stands for outside, and nothing else.
func moved(t *testing.T, before impl.Rights, after impl.Rights, from int, to int, amt int) {
	t.Helper()
	sum := impl.AllOf(before)
	if from < 0 {
		sum += amt
	}
	if to < 0 {
		sum -= amt
	}
	if impl.AllOf(after) != sum {
		t.Fatalf("the sum of %v became that of %v, not %d", before, after, sum)
	}
	for i := range before.Give {
		want := impl.HasOf(before, i)
		if i == from {
			want -= amt
		}
		if i == to {
			want += amt
		}
		if impl.HasOf(after, i) != want {
			t.Fatalf("node %d has %d in %v, not %d", i, impl.HasOf(after, i), after, want)
		}
	}
	if !impl.RightsOk(after) || !impl.Later(before, after) || impl.Later(after, before) {
		t.Fatalf("%v did not grow to %v", before, after)
	}
}

func randomChange(t *testing.T, r *rand.Rand, now impl.Rights) (impl.Rights, bool) {
	t.Helper()
	n := len(now.Give)
	i, j := r.Intn(n), r.Intn(n)
	has := impl.HasOf(now, i)
	switch r.Intn(4) {
	case 0:
		amt := 1 + r.Intn(50)
		next, ok := impl.Mint(now, i, amt)
		if !ok {
			t.Fatalf("%d is not issued to node %d of %v", amt, i, now)
		}
		moved(t, now, next, -1, i, amt)
		return next, true
	case 1:
		amt := 1 + r.Intn(has/2+2)
		next, ok := impl.Spend(now, i, amt)
		if ok != (amt <= has) {
			t.Fatalf("node %d of %v, which has %d, spends %d: %v", i, now, has, amt, ok)
		}
		if ok {
			moved(t, now, next, i, -1, amt)
		}
		return next, ok
	}
	amt := 1 + r.Intn(has+3)
	next, ok := impl.Hand(now, i, j, amt)
	if ok != (amt <= has && i != j) {
		t.Fatalf("node %d of %v, which has %d, hands %d to node %d: %v", i, now, has, amt, j, ok)
	}
	if ok {
		moved(t, now, next, i, j, amt)
	}
	return next, ok
}

// replicas is a group of nodes each of which changes its own totals only, in its own copy of the Rights. All copies that there ever were may arrive anywhere, again and again.
type replicas struct {
	now    []impl.Rights
	copies []impl.Rights
}

func (g *replicas) set(i int, r impl.Rights) {
	g.now[i] = r
	g.copies = append(g.copies, r)
}

// act lets node i issue, spend or hand something, as far as its own copy allows.
func (g *replicas) act(r *rand.Rand, i int) {
	amt := 1 + r.Intn(9)
	got, ok := impl.Rights{}, false
	switch r.Intn(3) {
	case 0:
		got, ok = impl.Mint(g.now[i], i, amt)
	case 1:
		got, ok = impl.Spend(g.now[i], i, amt)
	case 2:
		got, ok = impl.Hand(g.now[i], i, r.Intn(len(g.now)), amt)
	}
	if ok {
		g.set(i, got)
	}
}

func merged(t *testing.T, a impl.Rights, b impl.Rights) impl.Rights {
	t.Helper()
	got, ok := impl.Meet(a, b)
	want, fine := meetModel(a, b)
	if !ok || !fine || !equalRights(got, want) {
		t.Fatalf("Meet(%v, %v) = %v, %v", a, b, got, ok)
	}
	if !impl.Later(a, got) || !impl.Later(b, got) {
		t.Fatalf("%v is not later than %v and %v", got, a, b)
	}
	return got
}

func (g *replicas) run(t *testing.T, r *rand.Rand, steps int) {
	t.Helper()
	for range steps {
		i := r.Intn(len(g.now))
		if r.Intn(3) == 0 {
			g.set(i, merged(t, g.now[i], g.copies[r.Intn(len(g.copies))]))
		} else {
			g.act(r, i)
		}
	}
}

func newReplicas(n int) *replicas {
	g := &replicas{}
	for range n {
		g.now = append(g.now, impl.RightsNew(n))
	}
	g.copies = slices.Clone(g.now)
	return g
}

// mixed merges the copies in some order, each at least once.
func mixed(t *testing.T, r *rand.Rand, copies []impl.Rights) impl.Rights {
	t.Helper()
	order := r.Perm(len(copies))
	for range len(copies) / 2 {
		order = slices.Insert(order, r.Intn(len(order)), r.Intn(len(copies)))
	}
	now := copies[order[0]]
	for _, k := range order[1:] {
		if r.Intn(2) == 0 {
			now = merged(t, now, copies[k])
		} else {
			now = merged(t, copies[k], now)
		}
	}
	return now
}

// halved merges the copies pairwise, and their results pairwise, so that the order of the merges differs.
func halved(t *testing.T, copies []impl.Rights) impl.Rights {
	t.Helper()
	if len(copies) == 1 {
		return copies[0]
	}
	middle := len(copies) / 2
	return merged(t, halved(t, copies[:middle]), halved(t, copies[middle:]))
}

func TestP8MergedInAnyOrderAndRepeatedly(t *testing.T) {
	total := 0
	for seed := range 24 {
		r := rand.New(rand.NewSource(int64(seed)))
		g := newReplicas(1 + seed%impl.MaxNodes)
		g.run(t, r, 120)
		want := g.now[0]
		for _, c := range g.now[1:] {
			want = merged(t, want, c)
		}
		for _, got := range []impl.Rights{mixed(t, r, g.copies), mixed(t, r, g.copies), mixed(t, r, g.now), halved(t, g.copies)} {
			if !equalRights(got, want) || !impl.RightsSame(got, want) {
				t.Fatalf("the copies merge to %v and to %v", got, want)
			}
		}
		for _, c := range g.copies {
			if again := merged(t, want, c); !equalRights(again, want) {
				t.Fatalf("a copy that arrives again changes %v to %v", want, again)
			}
			if again := merged(t, c, c); !equalRights(again, c) {
				t.Fatalf("%v merged with itself is %v", c, again)
			}
		}
		total += impl.AllOf(want)
	}
	if total < 100 {
		t.Errorf("the runs left only %d", total)
	}
}

// Three sets of Rights merge to the same, in all orders and groupings, as far as each merge is valid.
func TestP8MeetIsALeastUpperBound(t *testing.T) {
	r := rand.New(rand.NewSource(5))
	g := newReplicas(3)
	g.run(t, r, 300)
	for range 3000 {
		a, b, c := g.copies[r.Intn(len(g.copies))], g.copies[r.Intn(len(g.copies))], g.copies[r.Intn(len(g.copies))]
		ab, bc := merged(t, a, b), merged(t, b, c)
		if !equalRights(ab, merged(t, b, a)) || !equalRights(merged(t, ab, c), merged(t, a, bc)) || !equalRights(merged(t, ab, ab), ab) {
			t.Fatalf("%v, %v and %v merge differently", a, b, c)
		}
		if impl.Later(a, c) && impl.Later(b, c) && !impl.Later(ab, c) {
			t.Fatalf("%v and %v merge to more than %v", a, b, c)
		}
		if impl.Later(a, b) != equalRights(ab, b) {
			t.Fatalf("Later and Meet disagree on %v and %v", a, b)
		}
	}
}

// watchedRights is Rights whose lists, and the spare capacity behind each of them, are watched.
type watchedRights struct {
	rows   []guarded[int]
	spent  guarded[int]
	list   [][]int
	before [][]int
}

// watchRights puts a row into the spare capacity behind Give that would be valid there, so that a function that reads it is seen.
func watchRights(r impl.Rights) watchedRights {
	w := watchedRights{spent: guard(r.Spent, 7), list: make([][]int, 0, len(r.Give)+3)}
	for _, row := range r.Give {
		w.rows = append(w.rows, guard(row, 7))
	}
	for range 3 {
		w.rows = append(w.rows, guard(make([]int, len(r.Give)), 7))
	}
	for _, row := range w.rows {
		w.list = append(w.list, row.arg)
	}
	w.before = slices.Clone(w.list)
	w.list = w.list[:len(r.Give)]
	return w
}

func (w watchedRights) rights() impl.Rights { return impl.Rights{Give: w.list, Spent: w.spent.arg} }

func (w watchedRights) parts() []guarded[int] { return append(slices.Clone(w.rows), w.spent) }

// rowsUnchanged checks that Give, with its spare capacity, still holds the same rows.
func (w watchedRights) rowsUnchanged(t *testing.T, what string) {
	t.Helper()
	for i, row := range w.list[:len(w.before)] {
		old := w.before[i]
		if len(row) != len(old) || cap(row) != cap(old) || cap(row) > 0 && !touch(row, old) {
			t.Errorf("%s: row %d of an argument, or behind it, was replaced", what, i)
		}
	}
}

// rightsApart checks that results share no memory with each other and with the arguments, which stay as they were.
func rightsApart(t *testing.T, what string, results []impl.Rights, args ...watchedRights) {
	t.Helper()
	lists, parts := [][]int{}, []guarded[int]{}
	for i, got := range results {
		lists = append(append(lists, got.Spent), got.Give...)
		for _, other := range results[:i] {
			if touch(got.Give, other.Give) {
				t.Errorf("%s: two results share their rows", what)
			}
		}
		for _, arg := range args {
			if touch(got.Give, arg.list) {
				t.Errorf("%s: a result shares its rows with an argument", what)
			}
		}
	}
	for _, arg := range args {
		parts = append(parts, arg.parts()...)
	}
	apart(t, what, 99, lists, parts...)
	for _, got := range results {
		scribble(got.Give, []int{98})
	}
	for _, arg := range args {
		arg.rowsUnchanged(t, what)
	}
}

func TestP10RightsResultsAreNewMemory(t *testing.T) {
	for _, r := range append(goodRights(), append(misshapen(), overdrawn()...)...) {
		w, other := watchRights(r), watchRights(r)
		results := []impl.Rights{}
		keep := func(got impl.Rights, _ bool) { results = append(results, got) }
		for i := range 2 {
			for _, amt := range []int{0, 1, 1, 5} {
				keep(impl.Mint(w.rights(), i, amt))
				keep(impl.Spend(w.rights(), i, amt))
				keep(impl.Hand(w.rights(), i, 1-i, amt))
			}
		}
		for _, same := range []impl.Rights{w.rights(), other.rights(), other.rights()} {
			keep(impl.Meet(w.rights(), same))
			keep(impl.Meet(same, w.rights()))
		}
		rightsApart(t, "Mint, Spend, Hand and Meet", results, w, other)
	}
	for n := -1; n <= impl.MaxNodes+1; n++ {
		rightsApart(t, "RightsNew", []impl.Rights{impl.RightsNew(n), impl.RightsNew(n)})
	}
}

func TestP10RightsArgumentsStay(t *testing.T) {
	for _, r := range append(goodRights(), append(misshapen(), overdrawn()...)...) {
		w, other := watchRights(r), watchRights(r)
		if impl.RightsOk(w.rights()) != rightsModel(r) || impl.AllOf(w.rights()) != allModel(r) || !impl.RightsSame(w.rights(), r) {
			t.Errorf("the memory behind the lists of %v changes a result", r)
		}
		for i := -1; i <= impl.MaxNodes; i++ {
			if impl.HasOf(w.rights(), i) != balanceModel(r, i) {
				t.Errorf("the memory behind the lists of %v changes a balance", r)
			}
		}
		if impl.Later(w.rights(), other.rights()) != rightsModel(r) || !impl.RightsSame(w.rights(), other.rights()) {
			t.Errorf("%v and its copy are compared wrongly", r)
		}
		rightsApart(t, "a function of chapter 7", nil, w, other)
	}
}

// The rows of an argument, and Spent, may be parts of one array, or even the same memory.
func TestP10RightsInOneArray(t *testing.T) {
	array := []int{9, 1, 2, 8, 0, 3}
	r := impl.Rights{Give: [][]int{array[0:2], array[2:4]}, Spent: array[4:6]}
	before := slices.Clone(array)
	got, ok := impl.Mint(r, 1, 5)
	isRights(t, "Mint", got, ok, rightsOf([]int{0, 3}, []int{9, 1}, []int{2, 13}), true)
	got, ok = impl.Hand(r, 0, 1, 5)
	isRights(t, "Hand", got, ok, rightsOf([]int{0, 3}, []int{9, 6}, []int{2, 8}), true)
	got, ok = impl.Spend(r, 0, 5)
	isRights(t, "Spend", got, ok, rightsOf([]int{5, 3}, []int{9, 1}, []int{2, 8}), true)
	if !slices.Equal(array, before) {
		t.Errorf("the array became %v", array)
	}
	row := []int{6, 6}
	r = impl.Rights{Give: [][]int{row, row}, Spent: row}
	got, ok = impl.Mint(r, 0, 1)
	isRights(t, "Mint", got, ok, rightsOf([]int{6, 6}, []int{7, 6}, []int{6, 6}), true)
	met, ok := impl.Meet(r, got)
	isRights(t, "Meet", met, ok, rightsOf([]int{6, 6}, []int{7, 6}, []int{6, 6}), true)
	if !slices.Equal(row, []int{6, 6}) || touch(got.Give[0], got.Give[1]) || touch(got.Give[0], got.Spent) || touch(met.Give[0], met.Give[1]) {
		t.Errorf("rows in the same memory are not taken apart: %v, %v, %v", row, got, met)
	}
}

// Rights that grow from the same ones do not see each other's changes.
func TestP10RightsGrowApart(t *testing.T) {
	base := busyRights(3)
	a, _ := impl.Mint(base, 0, 5)
	b, _ := impl.Mint(a, 1, 6)
	c, _ := impl.Spend(a, 1, 7)
	d, _ := impl.Hand(a, 2, 0, 8)
	isRights(t, "the first", a, true, changed(base, 0, 0, base.Give[0][0]+5), true)
	isRights(t, "the second", b, true, changed(a, 1, 1, base.Give[1][1]+6), true)
	isRights(t, "the third", c, true, changed(a, 3, 1, base.Spent[1]+7), true)
	isRights(t, "the fourth", d, true, changed(a, 2, 0, base.Give[2][0]+8), true)
	isRights(t, "the base", base, true, busyRights(3), true)
}
