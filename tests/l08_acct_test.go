package tests

import (
	"fmt"
	"math"
	"math/rand"
	"slices"
	"testing"

	"loop.example/g00801/impl"
)

func rep(node int, amt int) impl.Rep { return impl.Rep{Node: node, Amt: amt} }

func acctOf(have int, state int, by int, marks []int, reps ...impl.Rep) impl.Acct {
	return impl.Acct{Have: have, State: state, By: by, Marks: marks, Reps: reps}
}

func openAcct(have int) impl.Acct { return impl.Acct{Have: have} }

func cloneAcct(a impl.Acct) impl.Acct {
	return acctOf(a.Have, a.State, a.By, slices.Clone(a.Marks), slices.Clone(a.Reps)...)
}

func equalAccts(a impl.Acct, b impl.Acct) bool {
	return a.Have == b.Have && a.State == b.State && a.By == b.By && slices.Equal(a.Marks, b.Marks) && slices.Equal(a.Reps, b.Reps)
}

func isAcct(t *testing.T, what string, got impl.Acct, ok bool, want impl.Acct, wantOk bool) {
	t.Helper()
	if ok != wantOk || !equalAccts(got, want) {
		t.Errorf("%s: got %v, %v, want %v, %v", what, got, ok, want, wantOk)
	}
}

func isNoAcct(t *testing.T, what string, got impl.Acct, ok bool) {
	t.Helper()
	isAcct(t, what, got, ok, impl.Acct{}, false)
}

// placed is an account at node id of n nodes.
type placed struct {
	a     impl.Acct
	n, id int
}

func stateSamples() []int { return append([]int{0, 1, 2, 3, 4}, oddInts...) }

func haveSamples() []int {
	l := append(amountSamples(), oddInts...)
	for _, near := range []int{-2, -1, 0, 1, 2} {
		l = append(l, impl.MaxNum+near, impl.MaxNum-impl.MaxAmt+near, impl.MaxAmt+near, math.MaxInt-impl.MaxAmt+near)
	}
	return l
}

func ascendingModel(l []int) bool {
	for i := range l {
		for j := range i {
			if l[j] >= l[i] {
				return false
			}
		}
	}
	return true
}

// knownTo reports whether a node is one of n, by a list of them.
func knownTo(n int, node int) bool { return slices.Contains([]int{0, 1, 2, 3}[:n], node) }

func reportersOf(reps []impl.Rep) []int {
	l := []int{}
	for _, r := range reps {
		l = append(l, r.Node)
	}
	return l
}

// closedModel checks one sentence of the document after the other, for an account that is not open, at one of up to MaxNodes nodes.
func closedModel(a impl.Acct, n int, id int) bool {
	if !knownTo(n, a.By) || !ascendingModel(a.Marks) || !ascendingModel(reportersOf(a.Reps)) {
		return false
	}
	for _, m := range a.Marks {
		if !knownTo(n, m) || m == id {
			return false
		}
	}
	own := false
	for _, r := range a.Reps {
		if !knownTo(n, r.Node) || !numberModel(r.Amt) || r.Node == id && r.Amt != a.Have {
			return false
		}
		own = own || r.Node == id
	}
	if own != (len(a.Marks) == n-1) {
		return false
	}
	return a.State == 2 && len(a.Reps) == n || a.State == 1 && len(a.Reps) != n
}

func acctModel(a impl.Acct, n int, id int) bool {
	if n < 1 || n > 4 || !knownTo(n, id) || !numberModel(a.Have) {
		return false
	}
	if a.State == 0 {
		return a.By == 0 && len(a.Marks)+len(a.Reps) == 0
	}
	return closedModel(a, n, id)
}

// subsets returns the ascending lists of the nodes that bits name.
func subsets(n int) [][]int {
	l := [][]int{}
	for set := range 1 << n {
		l = append(l, members(uint8(set)))
	}
	return l
}

// someReports gives every node of a list an amount of its own, and node id what it has.
func someReports(nodes []int, id int, have int) []impl.Rep {
	l := []impl.Rep{}
	for _, node := range nodes {
		amt := []int{0, 31, 500, impl.MaxNum}[node]
		if node == id {
			amt = have
		}
		l = append(l, rep(node, amt))
	}
	return l
}

// goodAccts holds the valid accounts at every node of every number of nodes, with every set of marks and of reports.
func goodAccts() []placed {
	l := []placed{}
	for n := 1; n <= impl.MaxNodes; n++ {
		for id := range n {
			for _, have := range []int{0, 7, impl.MaxNum} {
				l = append(l, placed{openAcct(have), n, id})
				for _, a := range closedAccts(have, n, id) {
					l = append(l, placed{a, n, id})
				}
			}
		}
	}
	return l
}

func closedAccts(have int, n int, id int) []impl.Acct {
	l := []impl.Acct{}
	for _, marks := range subsets(n) {
		for _, nodes := range subsets(n) {
			all := len(marks) == n-1
			if slices.Contains(marks, id) || slices.Contains(nodes, id) != all {
				continue
			}
			state := 1
			if len(nodes) == n {
				state = 2
			}
			by := (have + len(marks) + 2*len(nodes)) % n
			l = append(l, acctOf(have, state, by, marks, someReports(nodes, id, have)...))
		}
	}
	return l
}

// badAccts holds accounts that are not valid at node 1 of 3, nor anywhere else.
func badAccts() []impl.Acct {
	l := []impl.Acct{
		acctOf(5, 0, 1, nil), acctOf(5, 0, 0, []int{0}), acctOf(5, 0, 0, nil, rep(0, 1)), acctOf(5, 0, 2, []int{0, 2}, rep(1, 5)), acctOf(5, 0, -1, nil),
		acctOf(-1, 0, 0, nil), acctOf(-1, 1, 0, nil), acctOf(impl.MaxNum+1, 0, 0, nil), acctOf(impl.MaxNum+1, 1, 0, []int{0}),
		acctOf(5, 1, -1, nil), acctOf(5, 1, 4, nil), acctOf(5, 1, 0, []int{2, 0}), acctOf(5, 1, 0, []int{0, 0}), acctOf(5, 1, 0, []int{-1}), acctOf(5, 1, 0, []int{4}), acctOf(5, 1, 0, []int{3, 1, 2}),
		acctOf(5, 1, 0, []int{2, 0, 2}, rep(3, 1), rep(0, 2), rep(3, 4)), acctOf(5, 2, 0, []int{0, 0, 0, 0}, rep(2, 1), rep(1, 1), rep(0, 1)),
		acctOf(5, 1, 0, nil, rep(2, 1), rep(0, 1)), acctOf(5, 1, 0, nil, rep(0, 1), rep(0, 1)), acctOf(5, 1, 0, nil, rep(-1, 1)), acctOf(5, 1, 0, nil, rep(4, 1)), acctOf(5, 1, 0, nil, rep(0, -1)), acctOf(5, 1, 0, nil, rep(0, impl.MaxNum+1)),
		acctOf(5, 2, 0, nil), acctOf(5, 3, 0, nil), acctOf(5, -1, 0, nil), acctOf(5, 3, 0, []int{0, 2}, rep(0, 1), rep(1, 5), rep(2, 1)), acctOf(5, 256, 3, []int{1}),
		acctOf(5, 1, 2, sequence(1000)), acctOf(5, 2, 2, make([]int, 1000), make([]impl.Rep, 1000)...),
	}
	for _, n := range oddInts {
		l = append(l, acctOf(n, 0, 0, nil), acctOf(n, 1, 0, []int{1}), acctOf(5, n, 0, nil), acctOf(5, 1, n, nil), acctOf(5, 1, 0, []int{n}), acctOf(5, 1, 0, []int{0, n}, rep(2, 3)), acctOf(5, 1, 0, nil, rep(n, 1)), acctOf(5, 1, 0, nil, rep(0, n)), acctOf(5, 2, 0, []int{n, n}, rep(n, n), rep(n, n)))
	}
	return l
}

// allAccts holds all samples, at whatever node they are valid or not.
func allAccts() []impl.Acct {
	l := badAccts()
	for _, p := range goodAccts() {
		l = append(l, p.a)
	}
	return l
}

func TestP10ConstantsOfAccounts(t *testing.T) {
	if impl.AsOpen != 0 || impl.AsShut != 1 || impl.AsDone != 2 {
		t.Error("a constant of chapter 9 is wrong")
	}
	var a int8 = impl.AsDone
	if a != 2 {
		t.Error("the states are constants of a type")
	}
}

func TestP10AcctNew(t *testing.T) {
	isAcct(t, "AcctNew", impl.AcctNew(), true, impl.Acct{}, true)
	for n := 1; n <= impl.MaxNodes; n++ {
		for id := range n {
			if !impl.AcctOk(impl.AcctNew(), n, id) {
				t.Errorf("AcctNew is not valid at node %d of %d", id, n)
			}
		}
	}
}

func TestP10AcctOkSamples(t *testing.T) {
	for _, p := range goodAccts() {
		if !acctModel(p.a, p.n, p.id) || !impl.AcctOk(p.a, p.n, p.id) {
			t.Errorf("AcctOk(%v, %d, %d) is false", p.a, p.n, p.id)
		}
	}
	for _, a := range badAccts() {
		for n := -1; n <= impl.MaxNodes+1; n++ {
			for id := -1; id <= n; id++ {
				if acctModel(a, n, id) || impl.AcctOk(a, n, id) {
					t.Errorf("AcctOk(%v, %d, %d) is true", a, n, id)
				}
			}
		}
	}
}

// An account that is valid at one node is not so at every other one.
func TestP10AcctOkAtOtherNodes(t *testing.T) {
	places := [][2]int{}
	for _, n := range append([]int{0, 1, 2, 3, 4, 5, 6}, oddInts...) {
		for _, id := range append([]int{0, 1, 2, 3, 4, 5, n - 1, n, n + 1}, oddInts...) {
			places = append(places, [2]int{n, id})
		}
	}
	good, bad := 0, 0
	for _, p := range goodAccts() {
		for _, at := range places {
			want := acctModel(p.a, at[0], at[1])
			if impl.AcctOk(p.a, at[0], at[1]) != want {
				t.Errorf("AcctOk(%v, %d, %d) = %v", p.a, at[0], at[1], !want)
			}
			if want {
				good++
			} else {
				bad++
			}
		}
	}
	if good < 1000 || bad < 1000 {
		t.Errorf("there were only %d valid and %d other accounts", good, bad)
	}
}

func TestP10AcctOkPlaces(t *testing.T) {
	for _, c := range []struct {
		n, id int
		want  bool
	}{
		{0, 0, false}, {0, -1, false}, {1, 0, true}, {1, 1, false}, {1, -1, false}, {4, 0, true}, {4, 3, true}, {4, 4, false}, {4, -1, false}, {5, 0, false}, {5, 4, false}, {-1, 0, false}, {-1, -2, false},
		{math.MaxInt, 0, false}, {math.MinInt, 0, false}, {math.MaxInt, math.MaxInt - 1, false}, {4, math.MaxInt, false}, {4, math.MinInt, false},
	} {
		if got := impl.AcctOk(openAcct(5), c.n, c.id); got != c.want {
			t.Errorf("AcctOk of an open account at node %d of %d is %v", c.id, c.n, got)
		}
	}
}

func TestP10AcctOkOpenExamples(t *testing.T) {
	for _, c := range []struct {
		a    impl.Acct
		want bool
	}{
		{openAcct(0), true}, {openAcct(5), true}, {openAcct(impl.MaxNum), true}, {openAcct(impl.MaxNum + 1), false}, {openAcct(-1), false}, {openAcct(math.MinInt), false}, {openAcct(math.MaxInt), false},
		{acctOf(5, 0, 0, []int{}, []impl.Rep{}...), true}, {impl.Acct{Marks: []int{}, Reps: []impl.Rep{}}, true},
		{acctOf(5, 0, 1, nil), false}, {acctOf(5, 0, -1, nil), false}, {acctOf(5, 0, 0, []int{1}), false}, {acctOf(5, 0, 0, nil, rep(1, 0)), false}, {acctOf(5, 0, 0, []int{0, 2}, rep(1, 5)), false},
	} {
		if got := impl.AcctOk(c.a, 3, 1); got != c.want {
			t.Errorf("AcctOk(%v, 3, 1) = %v", c.a, got)
		}
	}
}

func TestP10AcctOkShutExamples(t *testing.T) {
	full := []int{0, 2}
	for _, c := range []struct {
		what string
		a    impl.Acct
		want bool
	}{
		{"no marks", acctOf(5, 1, 0, nil), true}, {"empty marks", acctOf(5, 1, 0, []int{}), true}, {"one mark", acctOf(5, 1, 0, []int{0}), true}, {"the other mark", acctOf(5, 1, 0, []int{2}), true},
		{"By n - 1", acctOf(5, 1, 2, nil), true}, {"By id", acctOf(5, 1, 1, nil), true}, {"By n", acctOf(5, 1, 3, nil), false}, {"By negative", acctOf(5, 1, -1, nil), false},
		{"Have 0", acctOf(0, 1, 0, nil), true}, {"Have MaxNum", acctOf(impl.MaxNum, 1, 0, nil), true}, {"Have above MaxNum", acctOf(impl.MaxNum+1, 1, 0, nil), false}, {"Have negative", acctOf(-1, 1, 0, nil), false},
		{"Have above MaxNum, reported", acctOf(impl.MaxNum+1, 1, 0, full, rep(1, impl.MaxNum+1)), false}, {"Have negative, reported", acctOf(-1, 1, 0, full, rep(1, -1)), false},
		{"all marks, but no report of id", acctOf(5, 1, 0, full), false}, {"all marks", acctOf(5, 1, 0, full, rep(1, 5)), true}, {"all marks of 0 have", acctOf(0, 1, 0, full, rep(1, 0)), true}, {"all marks of MaxNum have", acctOf(impl.MaxNum, 1, 0, full, rep(1, impl.MaxNum)), true},
		{"another sum than Have", acctOf(5, 1, 0, full, rep(1, 6)), false}, {"a smaller sum than Have", acctOf(5, 1, 0, full, rep(1, 4)), false}, {"a report of 0 with money left", acctOf(5, 1, 0, full, rep(1, 0)), false},
		{"a report of id with one mark", acctOf(5, 1, 0, []int{0}, rep(1, 5)), false}, {"a report of id without marks", acctOf(5, 1, 0, nil, rep(1, 5)), false}, {"all marks and reports but that of id", acctOf(5, 1, 0, full, rep(0, 5), rep(2, 5)), false},
		{"marks that descend", acctOf(5, 1, 0, []int{2, 0}, rep(1, 5)), false}, {"a mark twice", acctOf(5, 1, 0, []int{0, 0}, rep(1, 5)), false}, {"a mark twice, not reported", acctOf(5, 1, 0, []int{0, 0}), false}, {"a mark twice of three", acctOf(5, 1, 0, []int{0, 2, 2}, rep(1, 5)), false},
		{"a mark of id", acctOf(5, 1, 0, []int{1}), false}, {"marks of id and another", acctOf(5, 1, 0, []int{1, 2}, rep(1, 5)), false}, {"marks of all", acctOf(5, 1, 0, []int{0, 1, 2}, rep(1, 5)), false}, {"marks of all, not reported", acctOf(5, 1, 0, []int{0, 1, 2}), false},
		{"a mark below 0", acctOf(5, 1, 0, []int{-1}), false}, {"two marks, one below 0", acctOf(5, 1, 0, []int{-1, 0}, rep(1, 5)), false}, {"a mark at n", acctOf(5, 1, 0, []int{3}), false}, {"two marks, one at n", acctOf(5, 1, 0, []int{0, 3}, rep(1, 5)), false},
	} {
		if got := impl.AcctOk(c.a, 3, 1); got != c.want {
			t.Errorf("%s: AcctOk(%v, 3, 1) = %v", c.what, c.a, got)
		}
	}
}

func TestP10AcctOkReportExamples(t *testing.T) {
	full := []int{0, 2}
	for _, c := range []struct {
		what string
		a    impl.Acct
		want bool
	}{
		{"a report of another node", acctOf(5, 1, 0, nil, rep(0, 9)), true}, {"reports of both other nodes", acctOf(5, 1, 0, nil, rep(0, 9), rep(2, 0)), true}, {"reports of both other nodes, one mark", acctOf(5, 1, 0, []int{2}, rep(0, 9), rep(2, 0)), true},
		{"reports that descend", acctOf(5, 1, 0, nil, rep(2, 9), rep(0, 0)), false}, {"all reports, descending", acctOf(5, 2, 0, full, rep(2, 9), rep(1, 5), rep(0, 1)), false}, {"two of all reports exchanged", acctOf(5, 2, 0, full, rep(0, 9), rep(2, 1), rep(1, 5)), false},
		{"two reports of a node", acctOf(5, 1, 0, nil, rep(0, 9), rep(0, 9)), false}, {"two reports of a node, of other sums", acctOf(5, 1, 0, nil, rep(0, 9), rep(0, 8)), false}, {"three reports of two nodes", acctOf(5, 2, 0, full, rep(1, 5), rep(2, 1), rep(2, 1)), false}, {"two reports of id", acctOf(5, 1, 0, full, rep(1, 5), rep(1, 5)), false}, {"a second report of id", acctOf(5, 1, 0, full, rep(1, 5), rep(1, 6)), false},
		{"a report of a node below 0", acctOf(5, 1, 0, nil, rep(-1, 9)), false}, {"a report of node n", acctOf(5, 1, 0, nil, rep(3, 9)), false}, {"a report of node n behind others", acctOf(5, 2, 0, full, rep(0, 1), rep(1, 5), rep(3, 9)), false}, {"four reports", acctOf(5, 2, 0, full, rep(0, 1), rep(1, 5), rep(2, 2), rep(3, 9)), false}, {"four reports, shut", acctOf(5, 1, 0, full, rep(0, 1), rep(1, 5), rep(2, 2), rep(3, 9)), false},
		{"a report of 0", acctOf(5, 1, 0, nil, rep(0, 0)), true}, {"a report of MaxNum", acctOf(5, 1, 0, nil, rep(0, impl.MaxNum)), true}, {"a report above MaxNum", acctOf(5, 1, 0, nil, rep(0, impl.MaxNum+1)), false}, {"a negative report", acctOf(5, 1, 0, nil, rep(0, -1)), false}, {"a negative report behind another", acctOf(5, 1, 0, nil, rep(0, 1), rep(2, -1)), false},
		{"done", acctOf(5, 2, 0, full, rep(0, 9), rep(1, 5), rep(2, 0)), true}, {"done with a sum above MaxNum", acctOf(5, 2, 0, full, rep(0, impl.MaxNum), rep(1, 5), rep(2, impl.MaxNum)), true}, {"done with another sum than Have", acctOf(5, 2, 0, full, rep(0, 9), rep(1, 4), rep(2, 0)), false},
		{"done, By n - 1", acctOf(5, 2, 2, full, rep(0, 9), rep(1, 5), rep(2, 0)), true}, {"done, By n", acctOf(5, 2, 3, full, rep(0, 9), rep(1, 5), rep(2, 0)), false}, {"done, By negative", acctOf(5, 2, -1, full, rep(0, 9), rep(1, 5), rep(2, 0)), false},
		{"shut with all reports", acctOf(5, 1, 0, full, rep(0, 9), rep(1, 5), rep(2, 0)), false}, {"open with all reports", acctOf(5, 0, 0, full, rep(0, 9), rep(1, 5), rep(2, 0)), false},
		{"done with two reports", acctOf(5, 2, 0, full, rep(0, 9), rep(1, 5)), false}, {"done with one report", acctOf(5, 2, 0, full, rep(1, 5)), false}, {"done with no report", acctOf(5, 2, 0, nil), false}, {"done with all reports, but one mark missing", acctOf(5, 2, 0, []int{0}, rep(0, 9), rep(1, 5), rep(2, 0)), false},
		{"state 3", acctOf(5, 3, 0, nil), false}, {"state 3 with all reports", acctOf(5, 3, 0, full, rep(0, 9), rep(1, 5), rep(2, 0)), false}, {"state -1", acctOf(5, -1, 0, nil), false}, {"state -1 with all reports", acctOf(5, -1, 0, full, rep(0, 9), rep(1, 5), rep(2, 0)), false}, {"state 3, like an open account", acctOf(5, 3, 0, full, rep(1, 5)), false},
	} {
		if got := impl.AcctOk(c.a, 3, 1); got != c.want {
			t.Errorf("%s: AcctOk(%v, 3, 1) = %v", c.what, c.a, got)
		}
	}
}

// A node that is alone needs no marks: it reports at once, and its report is the last one.
func TestP10AcctOkOfOneNode(t *testing.T) {
	for _, c := range []struct {
		a    impl.Acct
		want bool
	}{
		{openAcct(5), true}, {acctOf(5, 2, 0, nil, rep(0, 5)), true}, {acctOf(5, 1, 0, nil), false}, {acctOf(5, 1, 0, nil, rep(0, 5)), false}, {acctOf(5, 2, 0, nil), false}, {acctOf(5, 2, 0, nil, rep(0, 4)), false},
		{acctOf(5, 2, 0, []int{0}, rep(0, 5)), false}, {acctOf(5, 2, 0, []int{1}, rep(0, 5)), false}, {acctOf(5, 2, 1, nil, rep(0, 5)), false}, {acctOf(5, 2, 0, nil, rep(1, 5)), false}, {acctOf(5, 1, 0, nil, rep(0, 5), rep(1, 5)), false},
	} {
		if got := impl.AcctOk(c.a, 1, 0); got != c.want {
			t.Errorf("AcctOk(%v, 1, 0) = %v", c.a, got)
		}
	}
}

// Every list of up to five small numbers, as marks of an account with and without a report of its node.
func TestP10AcctOkEveryMarks(t *testing.T) {
	lists := [][]int{{}}
	good := 0
	for at := 0; at < len(lists); at++ {
		marks := lists[at]
		for n := 1; n <= impl.MaxNodes; n++ {
			for id := range n {
				for _, a := range []impl.Acct{acctOf(5, 1, 0, marks), acctOf(5, 1, 0, marks, rep(id, 5)), acctOf(5, 2, 0, marks, someReports(sequence(n), id, 5)...)} {
					want := acctModel(a, n, id)
					if impl.AcctOk(a, n, id) != want {
						t.Errorf("AcctOk(%v, %d, %d) = %v", a, n, id, !want)
					}
					if want {
						good++
					}
				}
			}
		}
		for m := -1; m <= impl.MaxNodes && len(marks) < 5; m++ {
			lists = append(lists, append(slices.Clone(marks), m))
		}
	}
	// Of the sets of other nodes of n, all but the full one go without a report of id, and the full one with it alone (unless n is 1), or with all.
	if want := 1*(0+0+1) + 2*(1+1+1) + 3*(3+1+1) + 4*(7+1+1); good != want {
		t.Errorf("%d lists of marks are valid, not %d", good, want)
	}
}

// Every list of up to five reports of small nodes, with every state.
func TestP10AcctOkEveryReports(t *testing.T) {
	lists := [][]impl.Rep{{}}
	for at := 0; at < len(lists); at++ {
		reps := lists[at]
		for n := 1; n <= impl.MaxNodes; n++ {
			for id := range n {
				others := slices.DeleteFunc(sequence(n), func(node int) bool { return node == id })
				for state := -1; state <= 3; state++ {
					for _, a := range []impl.Acct{acctOf(5, state, 0, others, reps...), acctOf(5, state, 0, nil, reps...)} {
						if want := acctModel(a, n, id); impl.AcctOk(a, n, id) != want {
							t.Fatalf("AcctOk(%v, %d, %d) = %v", a, n, id, !want)
						}
					}
				}
			}
		}
		for node := -1; node <= impl.MaxNodes && len(reps) < 5; node++ {
			lists = append(lists, append(slices.Clone(reps), rep(node, 5)))
		}
	}
}

// Every field of valid accounts is replaced by odd numbers.
func TestP10AcctOkOddFields(t *testing.T) {
	samples := slices.Concat([]int{0, 1, 2, 3, 4, 5, impl.MaxNum - 1, impl.MaxNum}, oddInts)
	for _, p := range goodAccts() {
		for _, odd := range samples {
			for _, a := range withOdd(p.a, odd) {
				if want := acctModel(a, p.n, p.id); impl.AcctOk(a, p.n, p.id) != want {
					t.Fatalf("AcctOk(%v, %d, %d) = %v", a, p.n, p.id, !want)
				}
			}
		}
	}
}

// withOdd returns copies of an account in which one number each is odd.
func withOdd(a impl.Acct, odd int) []impl.Acct {
	l := []impl.Acct{}
	change := func(f func(b *impl.Acct)) {
		b := cloneAcct(a)
		f(&b)
		l = append(l, b)
	}
	change(func(b *impl.Acct) { b.Have = odd })
	change(func(b *impl.Acct) { b.State = odd })
	change(func(b *impl.Acct) { b.By = odd })
	for i := range a.Marks {
		change(func(b *impl.Acct) { b.Marks[i] = odd })
	}
	for i := range a.Reps {
		change(func(b *impl.Acct) { b.Reps[i].Node = odd })
		change(func(b *impl.Acct) { b.Reps[i].Amt = odd })
	}
	return l
}

func addModel(a impl.Acct, amt int) (impl.Acct, bool) {
	if amt < 1 || amt > 1000000000 || a.Have < 0 || a.Have > 1125899906842624 || a.Have+amt > 1125899906842624 {
		return impl.Acct{}, false
	}
	want := cloneAcct(a)
	want.Have = a.Have + amt
	return want, true
}

func takeAcctModel(a impl.Acct, amt int) (impl.Acct, bool) {
	if amt < 1 || amt > 1000000000 || amt > a.Have {
		return impl.Acct{}, false
	}
	want := cloneAcct(a)
	want.Have = a.Have - amt
	return want, true
}

// addsAndTakes compares both functions with their models, and tells which of them succeed.
func addsAndTakes(t *testing.T, a impl.Acct, amt int) (bool, bool) {
	t.Helper()
	got, ok := impl.AcctAdd(a, amt)
	want, added := addModel(a, amt)
	isAcct(t, fmt.Sprintf("AcctAdd(%v, %d)", a, amt), got, ok, want, added)
	got, ok = impl.AcctTake(a, amt)
	want, taken := takeAcctModel(a, amt)
	isAcct(t, fmt.Sprintf("AcctTake(%v, %d)", a, amt), got, ok, want, taken)
	return added, taken
}

func TestP10AcctAddAndTake(t *testing.T) {
	adds, takes := 0, 0
	for _, a := range []impl.Acct{openAcct(0), acctOf(0, 1, 2, []int{0, 3}, rep(2, 8)), acctOf(0, 2, 1, []int{1}, rep(0, 0), rep(1, 9)), acctOf(0, 5, -4, []int{9, 2}, rep(7, -1), rep(7, 0))} {
		for _, have := range haveSamples() {
			a.Have = have
			for _, amt := range append(haveSamples(), have-1, have, have+1) {
				added, taken := addsAndTakes(t, a, amt)
				if added {
					adds++
				}
				if taken {
					takes++
				}
			}
		}
	}
	if adds < 100 || takes < 100 {
		t.Errorf("only %d amounts were added and %d taken", adds, takes)
	}
}

func TestP10AcctAddExamples(t *testing.T) {
	for _, c := range []struct {
		have, amt, want int
		ok              bool
	}{
		{0, 1, 1, true}, {0, 0, 0, false}, {0, -1, 0, false}, {5, -1, 0, false}, {5, 0, 0, false}, {5, 9, 14, true}, {0, impl.MaxAmt, impl.MaxAmt, true}, {0, impl.MaxAmt + 1, 0, false}, {7, impl.MaxAmt, impl.MaxAmt + 7, true},
		{impl.MaxNum - 1, 1, impl.MaxNum, true}, {impl.MaxNum, 1, 0, false}, {impl.MaxNum - 5, 5, impl.MaxNum, true}, {impl.MaxNum - 5, 6, 0, false}, {impl.MaxNum - impl.MaxAmt, impl.MaxAmt, impl.MaxNum, true}, {impl.MaxNum - impl.MaxAmt + 1, impl.MaxAmt, 0, false}, {impl.MaxNum + 1, 1, 0, false},
		{-1, 1, 0, false}, {-1, 5, 0, false}, {-5, impl.MaxAmt, 0, false}, {math.MaxInt, 1, 0, false}, {math.MaxInt, impl.MaxAmt, 0, false}, {math.MaxInt - 1, 1, 0, false}, {math.MinInt, 1, 0, false}, {math.MinInt, impl.MaxAmt, 0, false},
		{5, math.MaxInt, 0, false}, {5, math.MinInt, 0, false}, {math.MaxInt, math.MinInt, 0, false}, {math.MinInt, math.MaxInt, 0, false},
	} {
		got, ok := impl.AcctAdd(openAcct(c.have), c.amt)
		isAcct(t, fmt.Sprintf("AcctAdd of %d to %d", c.amt, c.have), got, ok, openAcct(c.want), c.ok)
	}
}

func TestP10AcctTakeExamples(t *testing.T) {
	for _, c := range []struct {
		have, amt, want int
		ok              bool
	}{
		{5, 5, 0, true}, {5, 4, 1, true}, {5, 6, 0, false}, {5, 1, 4, true}, {5, 0, 0, false}, {5, -1, 0, false}, {0, 1, 0, false}, {0, 0, 0, false}, {1, 1, 0, true}, {0, -1, 0, false},
		{impl.MaxAmt, impl.MaxAmt, 0, true}, {impl.MaxAmt - 1, impl.MaxAmt, 0, false}, {impl.MaxAmt + 1, impl.MaxAmt, 1, true}, {impl.MaxAmt + 1, impl.MaxAmt + 1, 0, false}, {impl.MaxNum, impl.MaxAmt, impl.MaxNum - impl.MaxAmt, true}, {impl.MaxNum, impl.MaxNum, 0, false},
		{-1, 1, 0, false}, {-5, 3, 0, false}, {-5, -6, 0, false}, {impl.MaxNum + 1, 1, impl.MaxNum, true}, {math.MaxInt, 1, math.MaxInt - 1, true}, {math.MaxInt, impl.MaxAmt, math.MaxInt - impl.MaxAmt, true}, {math.MinInt, 1, 0, false}, {math.MinInt, impl.MaxAmt, 0, false},
		{5, math.MaxInt, 0, false}, {5, math.MinInt, 0, false}, {math.MaxInt, math.MaxInt, 0, false}, {math.MinInt, math.MinInt, 0, false},
	} {
		got, ok := impl.AcctTake(openAcct(c.have), c.amt)
		isAcct(t, fmt.Sprintf("AcctTake of %d from %d", c.amt, c.have), got, ok, openAcct(c.want), c.ok)
	}
}

func shutModel(a impl.Acct, by int) (impl.Acct, bool) {
	if a.State != 0 || !isNodeModel(by) {
		return impl.Acct{}, false
	}
	return acctOf(a.Have, 1, by, slices.Clone(a.Marks), slices.Clone(a.Reps)...), true
}

func TestP10AcctShut(t *testing.T) {
	shut := 0
	for _, a := range allAccts() {
		for _, by := range nodeSamples() {
			got, ok := impl.AcctShut(a, by)
			want, fine := shutModel(a, by)
			isAcct(t, fmt.Sprintf("AcctShut(%v, %d)", a, by), got, ok, want, fine)
			if fine {
				shut++
			}
		}
	}
	if shut < 100 {
		t.Errorf("only %d accounts were closed", shut)
	}
}

func TestP10AcctShutExamples(t *testing.T) {
	for by := range impl.MaxNodes {
		got, ok := impl.AcctShut(openAcct(9), by)
		isAcct(t, "an open account", got, ok, acctOf(9, 1, by, nil), true)
		got, ok = impl.AcctShut(acctOf(9, 1, 2, nil), by)
		isNoAcct(t, "a shut account", got, ok)
		got, ok = impl.AcctShut(acctOf(9, 2, 0, nil, rep(0, 9)), by)
		isNoAcct(t, "a done account", got, ok)
		got, ok = impl.AcctShut(acctOf(9, 3, 0, nil), by)
		isNoAcct(t, "an account in no state", got, ok)
		got, ok = impl.AcctShut(acctOf(9, -1, 0, nil), by)
		isNoAcct(t, "an account in a state below 0", got, ok)
	}
	for _, by := range append([]int{-1, 4, 5}, oddInts...) {
		got, ok := impl.AcctShut(openAcct(9), by)
		isNoAcct(t, "no node", got, ok)
	}
	got, ok := impl.AcctShut(acctOf(-3, 0, 8, []int{7, 7}, rep(9, -9)), 3)
	isAcct(t, "an open account that is not valid", got, ok, acctOf(-3, 1, 3, []int{7, 7}, rep(9, -9)), true)
}

// What AcctShut returns is valid wherever there is more than one node, and the one on whose behalf it is.
func TestP10AcctShutIsValid(t *testing.T) {
	for n := 1; n <= impl.MaxNodes; n++ {
		for id := range n {
			for by := range impl.MaxNodes {
				a, ok := impl.AcctShut(openAcct(9), by)
				if !ok || impl.AcctOk(a, n, id) != (by < n && n > 1) {
					t.Errorf("AcctShut on behalf of %d, at node %d of %d: %v", by, id, n, a)
				}
			}
		}
	}
}

// putModel puts x in front of the first element that belongs behind it, whatever the order of the others.
func putModel[T any](l []T, x T, node func(T) int) []T {
	out := []T{}
	done := false
	for _, y := range l {
		if !done && node(y) > node(x) {
			out = append(out, x)
			done = true
		}
		out = append(out, y)
	}
	if !done {
		out = append(out, x)
	}
	return out
}

func markModel(a impl.Acct, from int) (impl.Acct, bool) {
	if a.State == 0 || !isNodeModel(from) || slices.Contains(a.Marks, from) {
		return impl.Acct{}, false
	}
	want := cloneAcct(a)
	want.Marks = putModel(a.Marks, from, func(m int) int { return m })
	return want, true
}

func TestP10AcctMark(t *testing.T) {
	marked := 0
	for _, a := range allAccts() {
		for _, from := range nodeSamples() {
			got, ok := impl.AcctMark(a, from)
			want, fine := markModel(a, from)
			isAcct(t, fmt.Sprintf("AcctMark(%v, %d)", a, from), got, ok, want, fine)
			if fine {
				marked++
			}
		}
	}
	if marked < 1000 {
		t.Errorf("only %d marks arrived", marked)
	}
}

// The marks of a valid account stay ascending.
func TestP10AcctMarkKeepsTheOrder(t *testing.T) {
	for _, p := range goodAccts() {
		for from := range impl.MaxNodes {
			got, ok := impl.AcctMark(p.a, from)
			if ok && (!ascendingModel(got.Marks) || len(got.Marks) != len(p.a.Marks)+1 || !slices.Contains(got.Marks, from)) {
				t.Errorf("AcctMark(%v, %d) = %v", p.a, from, got)
			}
			// The last mark makes the report due, which only a node can make.
			last := len(got.Marks) == p.n-1
			if ok && from < p.n && from != p.id && impl.AcctOk(got, p.n, p.id) == last {
				t.Errorf("with its last mark: %v, AcctMark(%v, %d) = %v is wrong at node %d of %d", last, p.a, from, got, p.id, p.n)
			}
		}
	}
}

func TestP10AcctMarkExamples(t *testing.T) {
	for _, c := range []struct {
		what  string
		marks []int
		from  int
		want  []int
	}{
		{"the first one", nil, 2, []int{2}}, {"the first one of an empty list", []int{}, 0, []int{0}}, {"in front", []int{1, 2}, 0, []int{0, 1, 2}}, {"in the middle", []int{0, 3}, 1, []int{0, 1, 3}}, {"in the middle, further", []int{0, 1, 3}, 2, []int{0, 1, 2, 3}}, {"at the end", []int{0, 1}, 3, []int{0, 1, 3}}, {"in front of one", []int{3}, 0, []int{0, 3}}, {"behind one", []int{0}, 3, []int{0, 3}},
		{"already there", []int{0, 2}, 2, nil}, {"already there, first", []int{0, 2}, 0, nil}, {"already there, alone", []int{1}, 1, nil}, {"already there, of all", []int{0, 1, 2, 3}, 3, nil},
		{"below 0", []int{0}, -1, nil}, {"at MaxNodes", []int{0}, 4, nil}, {"above MaxNodes", []int{0}, 5, nil}, {"the largest int", []int{0}, math.MaxInt, nil}, {"the smallest int", []int{0}, math.MinInt, nil},
		{"already there, in a list that descends", []int{3, 2, 1}, 3, nil}, {"already there, at the end of a list that descends", []int{3, 2, 1}, 1, nil}, {"already there, in a list in no order", []int{2, 0, 1}, 2, nil}, {"a list that descends", []int{3, 1}, 2, []int{2, 3, 1}}, {"a list with a duplicate", []int{0, 0, 3}, 2, []int{0, 0, 2, 3}}, {"a list with other numbers", []int{-9, 77}, 2, []int{-9, 2, 77}},
	} {
		for _, state := range []int{1, 2, 3, -1} {
			got, ok := impl.AcctMark(acctOf(9, state, 1, c.marks, rep(2, 5)), c.from)
			if c.want == nil {
				isNoAcct(t, c.what, got, ok)
			} else {
				isAcct(t, c.what, got, ok, acctOf(9, state, 1, c.want, rep(2, 5)), true)
			}
		}
		got, ok := impl.AcctMark(acctOf(9, 0, 0, c.marks), c.from)
		isNoAcct(t, "open, "+c.what, got, ok)
	}
}

func repModel(a impl.Acct, node int, amt int, n int) (impl.Acct, bool) {
	if a.State == 0 || !isNodeModel(node) || !numberModel(amt) || slices.Contains(reportersOf(a.Reps), node) {
		return impl.Acct{}, false
	}
	want := cloneAcct(a)
	want.Reps = putModel(a.Reps, rep(node, amt), func(r impl.Rep) int { return r.Node })
	if len(want.Reps) == n {
		want.State = 2
	}
	return want, true
}

func TestP10AcctRep(t *testing.T) {
	reported, done := 0, 0
	for _, a := range allAccts() {
		for node := -1; node <= impl.MaxNodes; node++ {
			for _, amt := range []int{-1, 0, 5, impl.MaxNum, impl.MaxNum + 1} {
				for n := len(a.Reps) - 1; n <= len(a.Reps)+2; n++ {
					got, ok := impl.AcctRep(a, node, amt, n)
					want, fine := repModel(a, node, amt, n)
					isAcct(t, fmt.Sprintf("AcctRep(%v, %d, %d, %d)", a, node, amt, n), got, ok, want, fine)
					if fine {
						reported++
					}
					if got.State != a.State && got.State == 2 {
						done++
					}
				}
			}
		}
	}
	if reported < 1000 || done < 100 {
		t.Errorf("only %d reports arrived, and %d were the last one", reported, done)
	}
}

func TestP10AcctRepOddArguments(t *testing.T) {
	a := acctOf(9, 1, 1, []int{0}, rep(1, 5), rep(2, 6))
	for _, odd := range oddInts {
		got, ok := impl.AcctRep(a, odd, 3, 3)
		isNoAcct(t, "an odd node", got, ok)
		got, ok = impl.AcctRep(a, 0, odd, 3)
		isNoAcct(t, "an odd amount", got, ok)
		got, ok = impl.AcctRep(a, odd, odd, odd)
		isNoAcct(t, "odd arguments", got, ok)
		got, ok = impl.AcctRep(a, 0, 3, odd)
		isAcct(t, "an odd number of nodes", got, ok, acctOf(9, 1, 1, []int{0}, rep(0, 3), rep(1, 5), rep(2, 6)), true)
	}
}

func TestP10AcctRepExamples(t *testing.T) {
	two := []impl.Rep{rep(0, 7), rep(2, 5)}
	for _, c := range []struct {
		what      string
		reps      []impl.Rep
		node, amt int
		want      []impl.Rep
	}{
		{"the first one", nil, 2, 8, []impl.Rep{rep(2, 8)}}, {"the first one of an empty list", []impl.Rep{}, 0, 8, []impl.Rep{rep(0, 8)}}, {"in front", []impl.Rep{rep(1, 7), rep(2, 5)}, 0, 8, []impl.Rep{rep(0, 8), rep(1, 7), rep(2, 5)}}, {"in the middle", two, 1, 8, []impl.Rep{rep(0, 7), rep(1, 8), rep(2, 5)}}, {"at the end", two, 3, 8, []impl.Rep{rep(0, 7), rep(2, 5), rep(3, 8)}}, {"the order of the amounts does not count", two, 1, 6, []impl.Rep{rep(0, 7), rep(1, 6), rep(2, 5)}},
		{"already there", two, 2, 8, nil}, {"already there, first", two, 0, 8, nil}, {"already there, the same amount", two, 2, 5, nil}, {"already there, of all", []impl.Rep{rep(0, 1), rep(1, 1), rep(2, 1), rep(3, 1)}, 3, 8, nil},
		{"below 0", two, -1, 8, nil}, {"at MaxNodes", two, 4, 8, nil}, {"above MaxNodes", two, 5, 8, nil},
		{"an amount of 0", two, 1, 0, []impl.Rep{rep(0, 7), rep(1, 0), rep(2, 5)}}, {"an amount of MaxNum", two, 1, impl.MaxNum, []impl.Rep{rep(0, 7), rep(1, impl.MaxNum), rep(2, 5)}}, {"an amount above MaxNum", two, 1, impl.MaxNum + 1, nil}, {"a negative amount", two, 1, -1, nil},
		{"already there, in a list that descends", []impl.Rep{rep(3, 1), rep(2, 1), rep(1, 1)}, 3, 8, nil}, {"already there, at the end of a list that descends", []impl.Rep{rep(3, 1), rep(2, 1), rep(1, 1)}, 1, 8, nil}, {"a list that descends", []impl.Rep{rep(3, 1), rep(1, 1)}, 2, 8, []impl.Rep{rep(2, 8), rep(3, 1), rep(1, 1)}}, {"a list with a duplicate", []impl.Rep{rep(0, 1), rep(0, 1), rep(3, 1)}, 2, 8, []impl.Rep{rep(0, 1), rep(0, 1), rep(2, 8), rep(3, 1)}}, {"a list with other numbers", []impl.Rep{rep(-9, -9), rep(77, -1)}, 2, 8, []impl.Rep{rep(-9, -9), rep(2, 8), rep(77, -1)}},
	} {
		for _, state := range []int{1, 2, 3, -1} {
			got, ok := impl.AcctRep(acctOf(9, state, 1, []int{3}, c.reps...), c.node, c.amt, 0)
			if c.want == nil {
				isNoAcct(t, c.what, got, ok)
			} else {
				isAcct(t, c.what, got, ok, acctOf(9, state, 1, []int{3}, c.want...), true)
			}
		}
		for n := range 5 {
			got, ok := impl.AcctRep(acctOf(9, 0, 0, nil, c.reps...), c.node, c.amt, n)
			isNoAcct(t, "open, "+c.what, got, ok)
		}
	}
}

// Only the report that makes them n ends the closing, not the one before it and not the one behind it.
func TestP10AcctRepLast(t *testing.T) {
	for n := -2; n <= impl.MaxNodes+2; n++ {
		a := acctOf(9, 1, 1, nil)
		for node := range impl.MaxNodes {
			next, ok := impl.AcctRep(a, node, 10+node, n)
			want := cloneAcct(a)
			want.Reps = append(want.Reps, rep(node, 10+node))
			if node+1 == n {
				want.State = 2
			}
			isAcct(t, fmt.Sprintf("report %d of %d", node+1, n), next, ok, want, true)
			a = next
		}
	}
	for _, c := range []struct{ state, n, want int }{{1, 2, 1}, {1, 3, 2}, {1, 4, 1}, {2, 2, 2}, {2, 3, 2}, {2, 4, 2}, {3, 2, 3}, {3, 3, 2}, {3, 4, 3}, {-1, 3, 2}, {-1, 4, -1}, {1, 0, 1}, {1, -3, 1}} {
		got, ok := impl.AcctRep(acctOf(9, c.state, 1, nil, rep(0, 1), rep(1, 1)), 2, 1, c.n)
		isAcct(t, fmt.Sprintf("state %d and the third report of %d", c.state, c.n), got, ok, acctOf(9, c.want, 1, nil, rep(0, 1), rep(1, 1), rep(2, 1)), true)
	}
}

func TestP10FinalOfExamples(t *testing.T) {
	for _, c := range []struct {
		what string
		a    impl.Acct
		want int
		ok   bool
	}{
		{"open", openAcct(5), 0, false}, {"open with reports", acctOf(5, 0, 0, nil, rep(0, 5)), 0, false}, {"shut", acctOf(5, 1, 0, nil), 0, false}, {"shut with all reports", acctOf(5, 1, 0, []int{1, 2}, rep(0, 5), rep(1, 1), rep(2, 1)), 0, false}, {"state 3", acctOf(5, 3, 0, nil, rep(0, 5)), 0, false}, {"state -1", acctOf(5, -1, 0, nil, rep(0, 5)), 0, false},
		{"done", acctOf(5, 2, 0, []int{1, 2}, rep(0, 5), rep(1, 7), rep(2, 30)), 42, true}, {"done with nothing", acctOf(0, 2, 0, []int{1}, rep(0, 0), rep(1, 0)), 0, true}, {"done alone", acctOf(5, 2, 0, nil, rep(0, 5)), 5, true}, {"done with much", acctOf(impl.MaxNum, 2, 0, []int{1, 2, 3}, rep(0, impl.MaxNum), rep(1, impl.MaxNum), rep(2, impl.MaxNum), rep(3, impl.MaxNum)), 4 * impl.MaxNum, true},
		{"done without reports", acctOf(5, 2, 0, nil), 0, true}, {"done with an empty list", acctOf(5, 2, 0, []int{}, []impl.Rep{}...), 0, true}, {"done with too few reports", acctOf(5, 2, 0, nil, rep(1, 8)), 8, true}, {"done with duplicates", acctOf(5, 2, 9, []int{3, 3}, rep(1, 8), rep(1, 8)), 16, true}, {"done with reports that descend", acctOf(-5, 2, 0, nil, rep(3, 8), rep(-1, 4)), 12, true}, {"done with negative reports", acctOf(5, 2, 0, nil, rep(0, -8), rep(1, 3)), -5, true}, {"done with huge reports", acctOf(5, 2, 0, nil, rep(0, math.MaxInt), rep(1, math.MinInt)), -1, true}, {"done with many reports", acctOf(5, 2, 0, nil, slices.Repeat([]impl.Rep{rep(0, 3)}, 1000)...), 3000, true},
	} {
		if got, ok := impl.FinalOf(c.a); got != c.want || ok != c.ok {
			t.Errorf("%s: FinalOf(%v) = %d, %v", c.what, c.a, got, ok)
		}
	}
}

func TestP4FinalOfValidAccounts(t *testing.T) {
	done := 0
	for _, p := range goodAccts() {
		got, ok := impl.FinalOf(p.a)
		sum := 0
		for node := range p.n {
			at := slices.Index(reportersOf(p.a.Reps), node)
			if at < 0 {
				sum = -1
				break
			}
			sum += p.a.Reps[at].Amt
		}
		if ok != (sum >= 0) || got != max(sum, 0) {
			t.Errorf("FinalOf(%v) = %d, %v", p.a, got, ok)
		}
		if ok {
			done++
		}
	}
	if done < 10 {
		t.Errorf("only %d accounts are done", done)
	}
}

func sameAcctBothWays(t *testing.T, a impl.Acct, b impl.Acct, want bool) {
	t.Helper()
	if impl.AcctSame(a, b) != want || impl.AcctSame(b, a) != want {
		t.Errorf("AcctSame of %v and %v is %v", a, b, !want)
	}
}

func TestP10AcctSameExamples(t *testing.T) {
	a := acctOf(5, 1, 2, []int{0, 2}, rep(0, 7), rep(1, 5))
	sameAcctBothWays(t, a, cloneAcct(a), true)
	for _, b := range []impl.Acct{
		acctOf(6, 1, 2, []int{0, 2}, rep(0, 7), rep(1, 5)), acctOf(5, 2, 2, []int{0, 2}, rep(0, 7), rep(1, 5)), acctOf(5, 0, 2, []int{0, 2}, rep(0, 7), rep(1, 5)), acctOf(5, 1, 1, []int{0, 2}, rep(0, 7), rep(1, 5)),
		acctOf(5, 1, 2, []int{0, 3}, rep(0, 7), rep(1, 5)), acctOf(5, 1, 2, []int{1, 2}, rep(0, 7), rep(1, 5)), acctOf(5, 1, 2, []int{0}, rep(0, 7), rep(1, 5)), acctOf(5, 1, 2, []int{0, 2, 2}, rep(0, 7), rep(1, 5)), acctOf(5, 1, 2, []int{2, 0}, rep(0, 7), rep(1, 5)), acctOf(5, 1, 2, nil, rep(0, 7), rep(1, 5)),
		acctOf(5, 1, 2, []int{0, 2}, rep(0, 8), rep(1, 5)), acctOf(5, 1, 2, []int{0, 2}, rep(0, 7), rep(2, 5)), acctOf(5, 1, 2, []int{0, 2}, rep(0, 7)), acctOf(5, 1, 2, []int{0, 2}, rep(0, 7), rep(1, 5), rep(1, 5)), acctOf(5, 1, 2, []int{0, 2}, rep(1, 5), rep(0, 7)), acctOf(5, 1, 2, []int{0, 2}), acctOf(5, 1, 2, nil), impl.AcctNew(), openAcct(5),
	} {
		sameAcctBothWays(t, a, b, false)
	}
	for _, state := range stateSamples() {
		none, empty := acctOf(5, state, 1, nil), impl.Acct{Have: 5, State: state, By: 1, Marks: []int{}, Reps: []impl.Rep{}}
		sameAcctBothWays(t, none, empty, true)
		sameAcctBothWays(t, none, acctOf(5, state, 1, []int{0}), false)
		sameAcctBothWays(t, empty, acctOf(5, state, 1, nil, rep(0, 0)), false)
		sameAcctBothWays(t, empty, acctOf(5, state, 1, nil, impl.Rep{}), false)
	}
	sameAcctBothWays(t, impl.Acct{}, impl.AcctNew(), true)
}

func TestP10AcctSameSamples(t *testing.T) {
	samples := badAccts()
	for i, p := range goodAccts() {
		if i%9 == 0 {
			samples = append(samples, p.a)
		}
	}
	for i, a := range samples {
		sameAcctBothWays(t, a, cloneAcct(a), true)
		for _, b := range samples[:i] {
			sameAcctBothWays(t, a, b, equalAccts(a, b))
		}
		if len(a.Reps) > 10 {
			continue
		}
		for _, odd := range []int{-7, 6, math.MaxInt} {
			for _, b := range withOdd(a, odd) {
				sameAcctBothWays(t, a, b, equalAccts(a, b))
			}
		}
	}
}

func TestP10AsName(t *testing.T) {
	for _, s := range append(stateSamples(), -3, 255, 256, 257, 258, 1<<32, 1<<32+1) {
		want := ""
		switch s {
		case 0:
			want = "open"
		case 1:
			want = "shut"
		case 2:
			want = "done"
		}
		if got := impl.AsName(s); got != want {
			t.Errorf("AsName(%d) = %q", s, got)
		}
	}
}

// Only the functions that say so refuse accounts, and none refuses one because it is not valid.
func TestP10AccountsThatAreNotValid(t *testing.T) {
	for _, a := range badAccts() {
		for _, amt := range []int{-1, 0, 1, 5, 6, impl.MaxAmt, impl.MaxAmt + 1} {
			addsAndTakes(t, a, amt)
		}
		for _, odd := range oddInts {
			got, ok := impl.AcctShut(a, odd)
			isNoAcct(t, "AcctShut", got, ok)
			got, ok = impl.AcctMark(a, odd)
			isNoAcct(t, "AcctMark", got, ok)
			got, ok = impl.AcctRep(a, odd, 1, 1)
			isNoAcct(t, "AcctRep", got, ok)
			impl.AcctOk(a, odd, odd)
			addsAndTakes(t, a, odd)
		}
		if _, ok := impl.FinalOf(a); ok != (a.State == 2) {
			t.Errorf("FinalOf(%v) is %v", a, ok)
		}
	}
}

// watchedAcct is an account whose lists, and the spare capacity behind them, are watched.
type watchedAcct struct {
	a     impl.Acct
	marks guarded[int]
	reps  guarded[impl.Rep]
}

// watchAcct puts the last node behind both lists, where it would be valid for most of them, so that a function that reads it is seen.
func watchAcct(a impl.Acct) watchedAcct {
	w := watchedAcct{a, guard(a.Marks, 3), guard(a.Reps, rep(3, 1))}
	w.a.Marks, w.a.Reps = w.marks.arg, w.reps.arg
	return w
}

func acctsApart(t *testing.T, what string, results []impl.Acct, w watchedAcct) {
	t.Helper()
	marks, reps := [][]int{}, [][]impl.Rep{}
	for _, got := range results {
		marks, reps = append(marks, got.Marks), append(reps, got.Reps)
	}
	apart(t, what, 99, marks, w.marks)
	apart(t, what, rep(99, 99), reps, w.reps)
}

func TestP10AcctResultsAreNewMemory(t *testing.T) {
	for _, a := range allAccts() {
		w := watchAcct(a)
		results := []impl.Acct{impl.AcctNew(), impl.AcctNew()}
		keep := func(what string, got impl.Acct, ok bool, want impl.Acct, fine bool) {
			t.Helper()
			isAcct(t, what, got, ok, want, fine)
			results = append(results, got)
		}
		for k := -1; k <= impl.MaxNodes; k++ {
			got, ok := impl.AcctAdd(w.a, k)
			want, fine := addModel(a, k)
			keep("AcctAdd", got, ok, want, fine)
			got, ok = impl.AcctTake(w.a, k)
			want, fine = takeAcctModel(a, k)
			keep("AcctTake", got, ok, want, fine)
			got, ok = impl.AcctShut(w.a, k)
			want, fine = shutModel(a, k)
			keep("AcctShut", got, ok, want, fine)
			got, ok = impl.AcctMark(w.a, k)
			want, fine = markModel(a, k)
			keep("AcctMark", got, ok, want, fine)
			got, ok = impl.AcctRep(w.a, k, 8, len(a.Reps)+1)
			want, fine = repModel(a, k, 8, len(a.Reps)+1)
			keep("AcctRep", got, ok, want, fine)
		}
		acctsApart(t, "a function of chapter 9", results, w)
	}
}

func TestP10AcctArgumentsStay(t *testing.T) {
	for _, p := range goodAccts() {
		w := watchAcct(p.a)
		if !impl.AcctOk(w.a, p.n, p.id) || !impl.AcctSame(w.a, p.a) || !impl.AcctSame(p.a, w.a) {
			t.Errorf("the memory behind the lists of %v changes AcctOk or AcctSame", p.a)
		}
		got, ok := impl.FinalOf(w.a)
		if want, fine := impl.FinalOf(p.a); got != want || ok != fine {
			t.Errorf("the memory behind the lists of %v changes FinalOf", p.a)
		}
		acctsApart(t, "a function of chapter 9", nil, w)
	}
	for _, a := range badAccts() {
		w := watchAcct(a)
		for n := range impl.MaxNodes + 2 {
			if impl.AcctOk(w.a, n, n-1) || impl.AcctOk(w.a, n, 0) {
				t.Errorf("the memory behind the lists of %v makes it valid", a)
			}
		}
		impl.FinalOf(w.a)
		impl.AcctSame(w.a, w.a)
		acctsApart(t, "a function of chapter 9", nil, w)
	}
}

// Two accounts may hold parts of one array; what is inserted into one must not appear in the other.
func TestP10AcctListsInOneArray(t *testing.T) {
	nodes := []int{0, 1, 3, 2}
	reps := []impl.Rep{rep(0, 4), rep(1, 5), rep(3, 6), rep(2, 7)}
	a, b := acctOf(5, 1, 0, nodes[:2], reps[:2]...), acctOf(5, 1, 0, nodes[2:], reps[2:]...)
	got, ok := impl.AcctMark(a, 2)
	isAcct(t, "AcctMark", got, ok, acctOf(5, 1, 0, []int{0, 1, 2}, rep(0, 4), rep(1, 5)), true)
	got, ok = impl.AcctRep(a, 2, 8, 3)
	isAcct(t, "AcctRep", got, ok, acctOf(5, 2, 0, []int{0, 1}, rep(0, 4), rep(1, 5), rep(2, 8)), true)
	isAcct(t, "the other account", b, true, acctOf(5, 1, 0, []int{3, 2}, rep(3, 6), rep(2, 7)), true)
	if !slices.Equal(nodes, []int{0, 1, 3, 2}) || !slices.Equal(reps, []impl.Rep{rep(0, 4), rep(1, 5), rep(3, 6), rep(2, 7)}) {
		t.Errorf("the arrays became %v and %v", nodes, reps)
	}
}

// arrival is a mark or a report that arrives at a node.
type arrival struct {
	kind int
	from int
}

// shares are what the nodes of a run have.
var shares = []int{40, 7, 0, 900}

// arrive makes the pending report as well, as a node does.
func arrive(t *testing.T, a impl.Acct, e arrival, n int, id int) impl.Acct {
	t.Helper()
	ok := false
	if e.kind == impl.MgReport {
		a, ok = impl.AcctRep(a, e.from, shares[e.from], n)
	} else {
		a, ok = impl.AcctMark(a, e.from)
	}
	if !ok {
		t.Fatalf("%v is refused at node %d", e, id)
	}
	if len(a.Marks) == n-1 && !slices.Contains(reportersOf(a.Reps), id) {
		if a, ok = impl.AcctRep(a, id, a.Have, n); !ok {
			t.Fatalf("node %d cannot report", id)
		}
	}
	return a
}

// everyArrival lets what is left arrive in every order, and counts the orders.
func everyArrival(t *testing.T, a impl.Acct, left []arrival, n int, id int) int {
	t.Helper()
	got, done := impl.FinalOf(a)
	if !impl.AcctOk(a, n, id) || done != (len(left) == 0) {
		t.Fatalf("%v is not valid at node %d of %d, or done too early or too late; %v is to arrive", a, id, n, left)
	}
	if len(left) == 0 {
		sum := 0
		for _, share := range shares[:n] {
			sum += share
		}
		if got != sum {
			t.Fatalf("the final sum is %d, not %d", got, sum)
		}
		return 1
	}
	orders := 0
	for i, e := range left {
		rest := slices.Delete(slices.Clone(left), i, i+1)
		orders += everyArrival(t, arrive(t, a, e, n, id), rest, n, id)
	}
	return orders
}

// Marks and reports in every order lead to the same end, which is reached with the last of them.
func TestP4EveryOrderOfMarksAndReports(t *testing.T) {
	for n := 2; n <= impl.MaxNodes; n++ {
		for id := range n {
			left := []arrival{}
			for from := range n {
				if from != id {
					left = append(left, arrival{impl.MgMark, from}, arrival{impl.MgReport, from})
				}
			}
			a, ok := impl.AcctShut(openAcct(shares[id]), n-1)
			if orders := everyArrival(t, a, left, n, id); !ok || orders != []int{0, 0, 2, 24, 720}[n] {
				t.Errorf("there were %d orders at node %d of %d", orders, id, n)
			}
		}
	}
}

// A second mark or report of a node is refused at any time, and leaves the final sum alone.
func TestP4EachReportCountsOnce(t *testing.T) {
	for _, p := range goodAccts() {
		for _, m := range p.a.Marks {
			got, ok := impl.AcctMark(p.a, m)
			isNoAcct(t, "a second mark", got, ok)
		}
		for _, r := range p.a.Reps {
			for _, amt := range []int{r.Amt, 0, 1, impl.MaxNum} {
				for n := range impl.MaxNodes + 2 {
					got, ok := impl.AcctRep(p.a, r.Node, amt, n)
					isNoAcct(t, "a second report", got, ok)
				}
			}
		}
		if p.a.State == 0 {
			continue
		}
		for by := range impl.MaxNodes {
			got, ok := impl.AcctShut(p.a, by)
			isNoAcct(t, "a second closing", got, ok)
		}
	}
}

// An open account has neither marks nor reports, and no final sum.
func TestP4OpenAccountsAreNotClosedByOthers(t *testing.T) {
	for _, have := range []int{0, 5, impl.MaxNum} {
		for k := range impl.MaxNodes {
			got, ok := impl.AcctMark(openAcct(have), k)
			isNoAcct(t, "AcctMark", got, ok)
			got, ok = impl.AcctRep(openAcct(have), k, have, 1)
			isNoAcct(t, "AcctRep", got, ok)
		}
		if sum, ok := impl.FinalOf(openAcct(have)); sum != 0 || ok {
			t.Errorf("an open account has the final sum %d", sum)
		}
	}
}

// closing is a run of nodes that hand shares of an account to each other while it is being closed. What a node sends to another arrives in order, and between different nodes in any order.
type closing struct {
	accts []impl.Acct
	wires [][][]impl.Msg
	total int
	by    int
}

func newClosing(n int, by int) *closing {
	c := &closing{accts: make([]impl.Acct, n), wires: make([][][]impl.Msg, n), by: by}
	for i := range n {
		c.accts[i] = impl.AcctNew()
		c.wires[i] = make([][]impl.Msg, n)
	}
	return c
}

func (c *closing) set(t *testing.T, what string, i int, a impl.Acct, ok bool) {
	t.Helper()
	if !ok {
		t.Fatalf("%s is refused at node %d: %v", what, i, c.accts[i])
	}
	c.accts[i] = a
}

func (c *closing) tellAll(i int, m impl.Msg) {
	for j := range c.accts {
		if j != i {
			c.wires[i][j] = append(c.wires[i][j], m)
		}
	}
}

func (c *closing) shut(t *testing.T, i int) {
	t.Helper()
	a, ok := impl.AcctShut(c.accts[i], c.by)
	c.set(t, "AcctShut", i, a, ok)
	c.tellAll(i, impl.Msg{Kind: impl.MgMark, Amt: c.by})
	c.report(t, i)
}

// report is made once, when nothing can arrive any more.
func (c *closing) report(t *testing.T, i int) {
	t.Helper()
	n, a := len(c.accts), c.accts[i]
	if len(a.Marks) == n-1 && !slices.Contains(reportersOf(a.Reps), i) {
		next, ok := impl.AcctRep(a, i, a.Have, n)
		c.set(t, "the own report", i, next, ok)
		c.tellAll(i, impl.Msg{Kind: impl.MgReport, Amt: a.Have})
	}
}

func (c *closing) deliver(t *testing.T, i int, j int) {
	t.Helper()
	m := c.wires[i][j][0]
	c.wires[i][j] = c.wires[i][j][1:]
	switch m.Kind {
	case impl.MgRights:
		a, ok := impl.AcctAdd(c.accts[j], m.Amt)
		c.set(t, "what was in transit", j, a, ok)
	case impl.MgMark:
		if c.accts[j].State == impl.AsOpen {
			c.shut(t, j)
		}
		a, ok := impl.AcctMark(c.accts[j], i)
		c.set(t, "a mark", j, a, ok)
		c.report(t, j)
	case impl.MgReport:
		a, ok := impl.AcctRep(c.accts[j], i, m.Amt, len(c.accts))
		c.set(t, "a report", j, a, ok)
	}
}

// spend hands a part of what an open account has to another node, or lets money come in or go out.
func (c *closing) spend(t *testing.T, r *rand.Rand, i int) {
	t.Helper()
	a, amt, j := c.accts[i], 1+r.Intn(50), r.Intn(len(c.accts))
	if a.State != impl.AsOpen {
		return
	}
	if r.Intn(3) == 0 {
		next, ok := impl.AcctAdd(a, amt)
		c.set(t, "money", i, next, ok)
		c.total += amt
		return
	}
	next, ok := impl.AcctTake(a, amt)
	if ok != (amt <= a.Have) {
		t.Fatalf("AcctTake(%v, %d) is %v", a, amt, ok)
	}
	if !ok {
		return
	}
	c.set(t, "AcctTake", i, next, ok)
	if i == j {
		c.total -= amt
	} else {
		c.wires[i][j] = append(c.wires[i][j], impl.Msg{Kind: impl.MgRights, Amt: amt})
	}
}

// check looks for what holds at any time: the accounts are valid, no money is lost, and a final sum is the whole balance.
func (c *closing) check(t *testing.T) {
	t.Helper()
	sum := 0
	for i, a := range c.accts {
		if !impl.AcctOk(a, len(c.accts), i) {
			t.Fatalf("the account %v is not valid at node %d", a, i)
		}
		if final, ok := impl.FinalOf(a); ok && final != c.total {
			t.Fatalf("the final sum at node %d is %d, not %d", i, final, c.total)
		}
		sum += a.Have
		for _, wire := range c.wires[i] {
			for _, m := range wire {
				sum += impl.MsgWorth(m)
			}
		}
	}
	if sum != c.total {
		t.Fatalf("the nodes and wires hold %d, not %d", sum, c.total)
	}
}

// fullWires returns the pairs of nodes between which something is in transit.
func (c *closing) fullWires() [][2]int {
	l := [][2]int{}
	for i := range c.wires {
		for j := range c.wires[i] {
			if len(c.wires[i][j]) > 0 {
				l = append(l, [2]int{i, j})
			}
		}
	}
	return l
}

func (c *closing) step(t *testing.T, r *rand.Rand, shutting bool) {
	t.Helper()
	i := r.Intn(len(c.accts))
	full := c.fullWires()
	switch {
	case shutting && r.Intn(8) == 0 && c.accts[i].State == impl.AsOpen:
		c.shut(t, i)
	case len(full) > 0 && r.Intn(2) == 0:
		pair := full[r.Intn(len(full))]
		c.deliver(t, pair[0], pair[1])
	default:
		c.spend(t, r, i)
	}
	c.check(t)
}

// finish lets everything arrive, in a random order.
func (c *closing) finish(t *testing.T, r *rand.Rand) {
	t.Helper()
	for full := c.fullWires(); len(full) > 0; full = c.fullWires() {
		pair := full[r.Intn(len(full))]
		c.deliver(t, pair[0], pair[1])
		c.check(t)
	}
}

// An account is closed at some of the nodes, and by their marks at the others; the final sum is the same everywhere, and is all that was there.
func TestP4ClosingAtSeveralNodes(t *testing.T) {
	late, sums := 0, 0
	for seed := range 600 {
		r := rand.New(rand.NewSource(int64(seed)))
		n := 1 + seed%impl.MaxNodes
		c := newClosing(n, r.Intn(n))
		for step := range 60 {
			c.step(t, r, step > 30)
		}
		if c.accts[c.by].State == impl.AsOpen {
			c.shut(t, c.by)
		}
		for _, pair := range c.fullWires() {
			if c.accts[pair[1]].State != impl.AsOpen && impl.MsgWorth(c.wires[pair[0]][pair[1]][0]) > 0 {
				late++
			}
		}
		c.finish(t, r)
		for i, a := range c.accts {
			final, ok := impl.FinalOf(a)
			if !ok || final != c.total || a.By != c.by || a.State != impl.AsDone || len(a.Marks) != n-1 || !slices.Equal(a.Reps, c.accts[0].Reps) {
				t.Fatalf("seed %d: the closed account at node %d is %v, and %d was there", seed, i, a, c.total)
			}
			sums += final
		}
	}
	if late < 50 || sums < 10000 {
		t.Errorf("only %d messages were in transit to a closed account, and the sums are %d", late, sums)
	}
}
