package tests

import (
	"fmt"
	"math"
	"math/big"
	"math/rand"
	"slices"
	"testing"

	"loop.example/g00801/impl"
)

// freshNode builds what NodeNew returns, without it.
func freshNode(id int, n int, accts int) impl.Node {
	x := impl.Node{Id: id, N: n, Accts: make([]impl.Acct, accts), Accs: make([]impl.Acc, accts), Ins: make([]int, n)}
	for range n {
		x.Outs = append(x.Outs, impl.Out{Next: 1})
	}
	return x
}

func cloneOut(o impl.Out) impl.Out { return impl.Out{Next: o.Next, List: slices.Clone(o.List)} }

func equalOuts(a impl.Out, b impl.Out) bool { return a.Next == b.Next && slices.Equal(a.List, b.List) }

func eachOf[T any](l []T, f func(T) T) []T {
	changed := []T{}
	for _, x := range l {
		changed = append(changed, f(x))
	}
	return changed
}

func cloneNode(x impl.Node) impl.Node {
	x.Accts, x.Outs = eachOf(x.Accts, cloneAcct), eachOf(x.Outs, cloneOut)
	x.Ins, x.Accs = slices.Clone(x.Ins), slices.Clone(x.Accs)
	return x
}

func changedNode(x impl.Node, f func(y *impl.Node)) impl.Node {
	y := cloneNode(x)
	f(&y)
	return y
}

func equalNodes(a impl.Node, b impl.Node) bool {
	numbers := func(x impl.Node) [5]int { return [5]int{x.Id, x.N, x.Stray, x.Came, x.Went} }
	return numbers(a) == numbers(b) && slices.EqualFunc(a.Accts, b.Accts, equalAccts) && slices.EqualFunc(a.Outs, b.Outs, equalOuts) && slices.Equal(a.Ins, b.Ins) && slices.Equal(a.Accs, b.Accs)
}

func isNode(t *testing.T, what string, got impl.Node, ok bool, want impl.Node, wantOk bool) {
	t.Helper()
	if ok != wantOk || !equalNodes(got, want) {
		t.Errorf("%s: got %v, %v, want %v, %v", what, got, ok, want, wantOk)
	}
}

func outModel(o impl.Out) bool {
	if o.Next < 1 || o.Next > impl.MaxNum || len(o.List) > 60 || len(o.List) >= o.Next {
		return false
	}
	for _, m := range o.List {
		if _, good := ruleFor(m); !good {
			return false
		}
	}
	return true
}

// shapeOfNodeModel checks the numbers of a node, and how many elements its lists have.
func shapeOfNodeModel(x impl.Node) bool {
	if x.N < 1 || x.N > 4 || !knownTo(x.N, x.Id) || !numberModel(x.Stray) || !numberModel(x.Came) || !numberModel(x.Went) {
		return false
	}
	return len(x.Accts) >= 1 && len(x.Accts) <= 3 && len(x.Accs) == len(x.Accts) && len(x.Outs) == x.N && len(x.Ins) == x.N
}

func nodeModel(x impl.Node) bool {
	if !shapeOfNodeModel(x) || !equalOuts(x.Outs[x.Id], impl.Out{Next: 1}) || x.Ins[x.Id] != 0 {
		return false
	}
	badAcct := func(a impl.Acct) bool { return !acctModel(a, x.N, x.Id) }
	badAcc := func(a impl.Acc) bool { return !accModel(a) }
	badOut := func(o impl.Out) bool { return !outModel(o) }
	badIn := func(n int) bool { return !numberModel(n) }
	return !slices.ContainsFunc(x.Accts, badAcct) && !slices.ContainsFunc(x.Accs, badAcc) && !slices.ContainsFunc(x.Outs, badOut) && !slices.ContainsFunc(x.Ins, badIn)
}

// eachPlace calls f with every node of every number of nodes, and every number of accounts.
func eachPlace(f func(id int, n int, accts int)) {
	for n := 1; n <= impl.MaxNodes; n++ {
		for id := range n {
			for accts := 1; accts <= impl.MaxAccts; accts++ {
				f(id, n, accts)
			}
		}
	}
}

// goodNodes holds fresh nodes, and nodes in which accounts, queues and acceptors of many kinds occur.
func goodNodes() []impl.Node {
	l := []impl.Node{}
	placedAccts, accs, outs := goodAccts(), goodAccs(), goodOuts()
	sums := []int{0, 1, 300, impl.MaxAmt + 1, impl.MaxNum - 1, impl.MaxNum}
	k := 0
	eachPlace(func(id int, n int, accts int) {
		l = append(l, freshNode(id, n, accts))
		here := slices.DeleteFunc(slices.Clone(placedAccts), func(p placed) bool { return p.n != n || p.id != id })
		for range 5 {
			x := freshNode(id, n, accts)
			for i := range accts {
				k++
				x.Accts[i], x.Accs[i] = cloneAcct(here[k*7%len(here)].a), accs[k*11%len(accs)]
			}
			for i := range n {
				k++
				if i != id {
					x.Outs[i], x.Ins[i] = cloneOut(outs[k*5%len(outs)]), sums[k%len(sums)]
				}
			}
			x.Stray, x.Came, x.Went = sums[k%len(sums)], sums[(k+2)%len(sums)], sums[(k/2)%len(sums)]
			l = append(l, x)
		}
	})
	return l
}

// sampleNode is node 1 of 3 with two accounts, of which the second is closed.
func sampleNode() impl.Node {
	return impl.Node{
		Id: 1, N: 3, Accts: []impl.Acct{openAcct(40), acctOf(5, 1, 2, []int{0, 2}, rep(0, 9), rep(1, 5))},
		Outs: []impl.Out{queued(9, 3), {Next: 1}, queued(6, 2)}, Ins: []int{4, 0, 7}, Accs: []impl.Acc{{}, accOf(9, 6, 3)}, Stray: 8, Came: 100, Went: 30,
	}
}

// fault is a change after which no node is valid.
type fault struct {
	what   string
	change func(x *impl.Node)
}

// shapeFaults change the numbers of elements of a node like sampleNode.
func shapeFaults() []fault {
	return []fault{
		{"no account", func(x *impl.Node) { x.Accts, x.Accs = nil, nil }},
		{"an account too many", func(x *impl.Node) {
			x.Accts, x.Accs = append(x.Accts, openAcct(0), openAcct(0)), append(x.Accs, impl.Acc{}, impl.Acc{})
		}},
		{"no Accs", func(x *impl.Node) { x.Accs = nil }},
		{"an Acc too few", func(x *impl.Node) { x.Accs = x.Accs[:1] }},
		{"an Acc too many", func(x *impl.Node) { x.Accs = append(x.Accs, impl.Acc{}) }},
		{"an account without its Acc", func(x *impl.Node) { x.Accts = append(x.Accts, openAcct(0)) }},
		{"no Outs", func(x *impl.Node) { x.Outs = nil }},
		{"an Out too few", func(x *impl.Node) { x.Outs = x.Outs[:2] }},
		{"an Out too many", func(x *impl.Node) { x.Outs = append(x.Outs, impl.Out{Next: 1}) }},
		{"no Ins", func(x *impl.Node) { x.Ins = nil }},
		{"an element of Ins too few", func(x *impl.Node) { x.Ins = x.Ins[:2] }},
		{"an element of Ins too many", func(x *impl.Node) { x.Ins = append(x.Ins, 0) }},
		{"Outs and Ins of a node too few", func(x *impl.Node) { x.Outs, x.Ins = x.Outs[:2], x.Ins[:2] }},
		{"Outs and Ins of a node too many", func(x *impl.Node) { x.Outs, x.Ins = append(x.Outs, impl.Out{Next: 1}), append(x.Ins, 0) }},
		{"no lists", func(x *impl.Node) { x.Accts, x.Outs, x.Ins, x.Accs = nil, nil, nil, nil }},
		{"Id at N", func(x *impl.Node) { x.Id = 3 }}, {"Id negative", func(x *impl.Node) { x.Id = -1 }}, {"N 0", func(x *impl.Node) { x.N = 0 }}, {"N negative", func(x *impl.Node) { x.N = -3 }}, {"N above the Outs", func(x *impl.Node) { x.N = 4 }},
	}
}

// partFaults change one part of a node like sampleNode.
func partFaults() []fault {
	return []fault{
		{"a negative Have", func(x *impl.Node) { x.Accts[0].Have = -1 }}, {"a Have above MaxNum", func(x *impl.Node) { x.Accts[1].Have = impl.MaxNum + 1 }},
		{"an open account with By", func(x *impl.Node) { x.Accts[0].By = 1 }}, {"an account in no state", func(x *impl.Node) { x.Accts[0].State = 3 }}, {"an account that is done too early", func(x *impl.Node) { x.Accts[1].State = 2 }},
		{"an account that belongs to another node", func(x *impl.Node) { x.Accts[1] = acctOf(5, 1, 2, []int{0, 1}, rep(2, 5)) }}, {"an account that belongs to fewer nodes", func(x *impl.Node) { x.Accts[1] = acctOf(5, 1, 0, []int{0}, rep(1, 5)) }}, {"an account that belongs to more nodes", func(x *impl.Node) { x.Accts[1] = acctOf(5, 1, 3, nil) }},
		{"another share than was reported", func(x *impl.Node) { x.Accts[1].Have++ }}, {"a report that is missing", func(x *impl.Node) { x.Accts[1].Reps = x.Accts[1].Reps[:1] }},
		{"an Acc without a choice", func(x *impl.Node) { x.Accs[1].Val = 0 }}, {"an Acc of a ballot above its promise", func(x *impl.Node) { x.Accs[1].Bal = 10 }}, {"an Acc with a negative promise", func(x *impl.Node) { x.Accs[0].Prom = -1 }}, {"an Acc with a promise above MaxNum", func(x *impl.Node) { x.Accs[0].Prom = impl.MaxNum + 1 }},
		{"an Out that is zero", func(x *impl.Node) { x.Outs[0] = impl.Out{} }}, {"an Out with Next above MaxNum", func(x *impl.Node) { x.Outs[2].Next = impl.MaxNum + 1 }}, {"an Out with a message that is not valid", func(x *impl.Node) { x.Outs[2].List[1].Kind = 6 }}, {"an Out with too many messages", func(x *impl.Node) { x.Outs[0] = queued(100, 61) }}, {"an Out with as many messages as Next", func(x *impl.Node) { x.Outs[0].Next = 3 }},
		{"an own Out that is zero", func(x *impl.Node) { x.Outs[1] = impl.Out{} }}, {"an own Out that was used", func(x *impl.Node) { x.Outs[1].Next = 2 }}, {"an own Out with a message", func(x *impl.Node) { x.Outs[1] = queued(2, 1) }}, {"an own Out at MaxNum", func(x *impl.Node) { x.Outs[1].Next = impl.MaxNum }},
		{"a negative element of Ins", func(x *impl.Node) { x.Ins[0] = -1 }}, {"an element of Ins above MaxNum", func(x *impl.Node) { x.Ins[2] = impl.MaxNum + 1 }}, {"an own element of Ins of 1", func(x *impl.Node) { x.Ins[1] = 1 }}, {"an own element of Ins that is negative", func(x *impl.Node) { x.Ins[1] = -1 }}, {"an own element of Ins at MaxNum", func(x *impl.Node) { x.Ins[1] = impl.MaxNum }},
		{"a negative Stray", func(x *impl.Node) { x.Stray = -1 }}, {"a Stray above MaxNum", func(x *impl.Node) { x.Stray = impl.MaxNum + 1 }}, {"a negative Came", func(x *impl.Node) { x.Came = -1 }}, {"a Came above MaxNum", func(x *impl.Node) { x.Came = impl.MaxNum + 1 }}, {"a negative Went", func(x *impl.Node) { x.Went = -1 }}, {"a Went above MaxNum", func(x *impl.Node) { x.Went = impl.MaxNum + 1 }},
	}
}

func faults() []fault { return append(shapeFaults(), partFaults()...) }

func badNodes() []impl.Node {
	l := []impl.Node{{}, {N: 1}, {Id: -1, N: -1}, {Accts: []impl.Acct{}, Outs: []impl.Out{}, Ins: []int{}, Accs: []impl.Acc{}}}
	for _, f := range faults() {
		l = append(l, changedNode(sampleNode(), f.change))
	}
	for _, n := range oddInts {
		l = append(l, impl.Node{Id: n, N: n}, impl.Node{N: n}, impl.Node{Id: n - 1, N: n, Accts: make([]impl.Acct, 1), Accs: make([]impl.Acc, 1)})
	}
	for _, n := range []int{5, 6, 100} {
		l = append(l, freshNode(0, n, 1), freshNode(4, n, 3), freshNode(n-1, n, 2), freshNode(0, 4, n), freshNode(1, 2, 4))
	}
	return append(l, freshNode(0, 0, 1), freshNode(-1, 0, 1), freshNode(2, 2, 1), freshNode(-1, 2, 1), freshNode(0, 1, 0), freshNode(0, 2, 1000))
}

func allNodes() []impl.Node { return append(goodNodes(), badNodes()...) }

// numbersOf points to every number in a node, at every depth.
func numbersOf(x *impl.Node) []*int {
	l := []*int{&x.Id, &x.N, &x.Stray, &x.Came, &x.Went}
	for i := range x.Accts {
		a := &x.Accts[i]
		l = append(l, &a.Have, &a.State, &a.By)
		for j := range a.Marks {
			l = append(l, &a.Marks[j])
		}
		for j := range a.Reps {
			l = append(l, &a.Reps[j].Node, &a.Reps[j].Amt)
		}
	}
	for i := range x.Outs {
		l = append(l, &x.Outs[i].Next)
		for j := range x.Outs[i].List {
			m := &x.Outs[i].List[j]
			l = append(l, &m.Kind, &m.Acct, &m.Amt, &m.Src)
		}
	}
	for i := range x.Ins {
		l = append(l, &x.Ins[i])
	}
	for i := range x.Accs {
		l = append(l, &x.Accs[i].Prom, &x.Accs[i].Bal, &x.Accs[i].Val)
	}
	return l
}

// lengths returns every list without its last element, without its first one, and with one more.
func lengths[T any](l []T, more T) [][]T {
	all := [][]T{append(slices.Clone(l), more)}
	if len(l) > 0 {
		all = append(all, slices.Clone(l[1:]), slices.Clone(l[:len(l)-1]))
	}
	return all
}

// resized returns copies of a node in which one list each, at every depth, has another length.
func resized(x impl.Node) []impl.Node {
	l := []impl.Node{}
	change := func(f func(y *impl.Node)) { l = append(l, changedNode(x, f)) }
	for _, accts := range lengths(x.Accts, openAcct(0)) {
		change(func(y *impl.Node) { y.Accts = accts })
	}
	for _, outs := range lengths(x.Outs, impl.Out{Next: 1}) {
		change(func(y *impl.Node) { y.Outs = outs })
	}
	for _, ins := range lengths(x.Ins, 0) {
		change(func(y *impl.Node) { y.Ins = ins })
	}
	for _, accs := range lengths(x.Accs, impl.Acc{}) {
		change(func(y *impl.Node) { y.Accs = accs })
	}
	for i, a := range x.Accts {
		for _, marks := range lengths(a.Marks, 0) {
			change(func(y *impl.Node) { y.Accts[i].Marks = marks })
		}
		for _, reps := range lengths(a.Reps, rep(0, 0)) {
			change(func(y *impl.Node) { y.Accts[i].Reps = reps })
		}
	}
	for i, o := range x.Outs {
		for _, list := range lengths(o.List, impl.Msg{}) {
			change(func(y *impl.Node) { y.Outs[i].List = list })
		}
	}
	return l
}

func TestP10NodeNew(t *testing.T) {
	samples := append([]int{0, 1, 2, 3, 4, 5, 6, 255, 256, 1 << 32, 1<<32 + 1}, oddInts...)
	built := 0
	for _, id := range samples {
		for _, n := range samples {
			for _, accts := range samples {
				got, ok := impl.NodeNew(id, n, accts)
				want, fine := impl.Node{}, n >= 1 && n <= 4 && id >= 0 && id < n && accts >= 1 && accts <= 3
				if fine {
					want = freshNode(id, n, accts)
					built++
				}
				isNode(t, fmt.Sprintf("NodeNew(%d, %d, %d)", id, n, accts), got, ok, want, fine)
				if impl.NodeOk(got) != fine {
					t.Errorf("NodeOk of NodeNew(%d, %d, %d) is %v", id, n, accts, !fine)
				}
			}
		}
	}
	if built != 30 {
		t.Errorf("%d nodes were built", built)
	}
}

func TestP10NodeNewExamples(t *testing.T) {
	got, ok := impl.NodeNew(1, 2, 3)
	isNode(t, "node 1 of 2", got, ok, impl.Node{Id: 1, N: 2, Accts: []impl.Acct{{}, {}, {}}, Outs: []impl.Out{{Next: 1}, {Next: 1}}, Ins: []int{0, 0}, Accs: []impl.Acc{{}, {}, {}}}, true)
	got, ok = impl.NodeNew(0, 1, 1)
	isNode(t, "the only node", got, ok, impl.Node{N: 1, Accts: []impl.Acct{{}}, Outs: []impl.Out{{Next: 1}}, Ins: []int{0}, Accs: []impl.Acc{{}}}, true)
	for _, c := range []struct {
		id, n, accts int
		ok           bool
	}{
		{0, 4, 3, true}, {3, 4, 3, true}, {3, 4, 1, true}, {4, 4, 1, false}, {-1, 4, 1, false}, {0, 5, 1, false}, {4, 5, 1, false}, {0, 0, 1, false}, {-1, 0, 1, false}, {0, -1, 1, false}, {-2, -1, 1, false},
		{1, 1, 1, false}, {0, 4, 0, false}, {0, 4, 4, false}, {0, 4, -1, false}, {2, 2, 1, false},
		{math.MaxInt, 4, 1, false}, {math.MinInt, 4, 1, false}, {0, math.MaxInt, 1, false}, {0, math.MinInt, 1, false}, {0, 4, math.MaxInt, false}, {0, 4, math.MinInt, false},
		{math.MaxInt - 1, math.MaxInt, math.MaxInt, false}, {math.MinInt, math.MinInt, math.MinInt, false}, {math.MaxInt, math.MaxInt, math.MaxInt, false},
	} {
		if _, ok := impl.NodeNew(c.id, c.n, c.accts); ok != c.ok {
			t.Errorf("NodeNew(%d, %d, %d) is %v", c.id, c.n, c.accts, ok)
		}
	}
}

func TestP10NodeOkSamples(t *testing.T) {
	if !nodeModel(sampleNode()) || !impl.NodeOk(sampleNode()) {
		t.Error("the sample is not valid")
	}
	for _, x := range goodNodes() {
		if !nodeModel(x) || !impl.NodeOk(x) {
			t.Errorf("NodeOk(%v) is false", x)
		}
	}
	for _, x := range badNodes() {
		if nodeModel(x) || impl.NodeOk(x) {
			t.Errorf("NodeOk(%v) is true", x)
		}
	}
}

func TestP10NodeOkFaults(t *testing.T) {
	for _, f := range faults() {
		x := changedNode(sampleNode(), f.change)
		if nodeModel(x) || impl.NodeOk(x) {
			t.Errorf("%s: NodeOk(%v) is true", f.what, x)
		}
	}
}

// The numbers of nodes and accounts alone decide about nodes that are otherwise as NodeNew makes them.
func TestP10NodeOkPlaces(t *testing.T) {
	for n := range impl.MaxNodes + 3 {
		for accts := range impl.MaxAccts + 3 {
			for _, id := range append([]int{0, 1, 2, 3, 4, 5, n - 1, n, n + 1}, oddInts...) {
				want := n >= 1 && n <= 4 && id >= 0 && id < n && accts >= 1 && accts <= 3
				if got := impl.NodeOk(freshNode(id, n, accts)); got != want {
					t.Errorf("NodeOk of node %d of %d with %d accounts is %v", id, n, accts, got)
				}
			}
		}
	}
	for _, n := range append([]int{0, 1, 3, 4, 5}, oddInts...) {
		for _, id := range []int{-1, 0, 1, n - 1, n} {
			x := freshNode(id, 2, 2)
			x.N = n
			if impl.NodeOk(x) {
				t.Errorf("NodeOk of node %d of %d with two Outs is true", id, n)
			}
		}
	}
}

// Every account at every node, at every place of the list.
func TestP10NodeOkChecksAccounts(t *testing.T) {
	good, bad := 0, 0
	for k, a := range allAccts() {
		eachPlace(func(id int, n int, accts int) {
			x := freshNode(id, n, accts)
			x.Accts[k%accts] = a
			want := acctModel(a, n, id)
			if impl.NodeOk(x) != want {
				t.Fatalf("NodeOk with the account %v at node %d of %d is %v", a, id, n, !want)
			}
			if want {
				good++
			} else {
				bad++
			}
		})
	}
	if good < 1000 || bad < 1000 {
		t.Errorf("there were only %d valid and %d other accounts", good, bad)
	}
}

func TestP10NodeOkChecksAcceptors(t *testing.T) {
	for k, a := range allAccs() {
		for accts := 1; accts <= impl.MaxAccts; accts++ {
			x := freshNode(k%impl.MaxNodes, impl.MaxNodes, accts)
			x.Accs[k%accts] = a
			if want := accModel(a); impl.NodeOk(x) != want {
				t.Fatalf("NodeOk with %v as acceptor %d of %d is %v", a, k%accts, accts, !want)
			}
		}
	}
}

// A queue that is valid between nodes is not so from a node to itself, unless it was never used.
func TestP10NodeOkChecksQueues(t *testing.T) {
	for _, o := range allOuts() {
		for id := range impl.MaxNodes {
			for to := range impl.MaxNodes {
				x := freshNode(id, impl.MaxNodes, 1)
				x.Outs[to] = o
				want := outModel(o) && (to != id || o.Next == 1)
				if impl.NodeOk(x) != want {
					t.Fatalf("NodeOk of node %d with %v to node %d is %v", id, o, to, !want)
				}
			}
		}
	}
}

func TestP10NodeOkChecksInsAndSums(t *testing.T) {
	for _, n := range slices.Concat([]int{0, 1, 2, impl.MaxAmt + 1, impl.MaxNum - 1, impl.MaxNum}, oddInts) {
		want := numberModel(n)
		for id := range impl.MaxNodes {
			for from := range impl.MaxNodes {
				x := freshNode(id, impl.MaxNodes, 2)
				x.Ins[from] = n
				if fine := want && (from != id || n == 0); impl.NodeOk(x) != fine {
					t.Errorf("NodeOk of node %d with %d from node %d is %v", id, n, from, !fine)
				}
			}
			for which, f := range []func(x *impl.Node){func(x *impl.Node) { x.Stray = n }, func(x *impl.Node) { x.Came = n }, func(x *impl.Node) { x.Went = n }} {
				if impl.NodeOk(changedNode(freshNode(id, impl.MaxNodes, 2), f)) != want {
					t.Errorf("NodeOk with %d as sum %d is %v", n, which, !want)
				}
			}
		}
	}
}

// Every number of a node, at every depth, is replaced.
func TestP10NodeOkOddNumbers(t *testing.T) {
	good, bad := 0, 0
	for k, x := range append(goodNodes(), sampleNode()) {
		for i, p := range numbersOf(&x) {
			was := *p
			for _, n := range []int{0, 1, 2, 4, 5, was - 1, was + 1, -1, impl.MaxNum, impl.MaxNum + 1, oddInts[(i+k)%len(oddInts)]} {
				*p = n
				want := nodeModel(x)
				if impl.NodeOk(x) != want {
					t.Fatalf("NodeOk(%v) is %v after number %d became %d", x, !want, i, n)
				}
				if want {
					good++
				} else {
					bad++
				}
			}
			*p = was
		}
	}
	if good < 10000 || bad < 10000 {
		t.Errorf("there were only %d valid and %d other nodes", good, bad)
	}
}

func TestP10NodeOkLengths(t *testing.T) {
	for _, x := range append(goodNodes(), sampleNode()) {
		for _, y := range resized(x) {
			if want := nodeModel(y); impl.NodeOk(y) != want {
				t.Fatalf("NodeOk(%v) is %v", y, !want)
			}
		}
	}
}

// worthModel adds numbers of any size.
func worthModel(x impl.Node) *big.Int {
	sum := big.NewInt(0)
	if !nodeModel(x) {
		return sum
	}
	sum.Add(sum, big.NewInt(int64(x.Stray)))
	for _, a := range x.Accts {
		sum.Add(sum, big.NewInt(int64(a.Have)))
	}
	return sum
}

func TestP1NodeWorth(t *testing.T) {
	worth := 0
	for _, x := range allNodes() {
		got := impl.NodeWorth(x)
		if worthModel(x).Cmp(big.NewInt(int64(got))) != 0 {
			t.Errorf("NodeWorth(%v) = %d, want %v", x, got, worthModel(x))
		}
		if got > 0 {
			worth++
		}
	}
	if worth < 50 {
		t.Errorf("only %d nodes have anything", worth)
	}
}

func TestP1NodeWorthExamples(t *testing.T) {
	full := freshNode(0, 2, 3)
	for i := range full.Accts {
		full.Accts[i].Have = impl.MaxNum
	}
	full.Stray, full.Came, full.Went = impl.MaxNum, impl.MaxNum, impl.MaxNum
	for _, c := range []struct {
		what string
		x    impl.Node
		want int
	}{
		{"the sample", sampleNode(), 53}, {"a fresh node", freshNode(2, 3, 2), 0}, {"the zero value", impl.Node{}, 0}, {"a node that is full", full, 4 * impl.MaxNum},
		{"a full node without Stray", changedNode(full, func(x *impl.Node) { x.Stray = 0 }), 3 * impl.MaxNum}, {"a full account", changedNode(full, func(x *impl.Node) { x.Stray, x.Accts[0].Have, x.Accts[2].Have = 0, 0, 0 }), impl.MaxNum},
		{"only Stray", changedNode(freshNode(0, 1, 1), func(x *impl.Node) { x.Stray = impl.MaxNum }), impl.MaxNum}, {"only sums and queues", impl.Node{N: 2, Accts: []impl.Acct{{}}, Outs: []impl.Out{{Next: 1}, queued(9, 3)}, Ins: []int{0, 7}, Accs: []impl.Acc{accOf(9, 9, 1)}, Came: 70, Went: 10}, 0},
		{"a share that is too large", changedNode(full, func(x *impl.Node) { x.Accts[2].Have++ }), 0}, {"a Stray that is too large", changedNode(full, func(x *impl.Node) { x.Stray++ }), 0}, {"a negative share", changedNode(sampleNode(), func(x *impl.Node) { x.Accts[0].Have = -1 }), 0},
		{"a closed account that has reported", changedNode(freshNode(0, 1, 1), func(x *impl.Node) { x.Accts[0] = acctOf(7, 2, 0, nil, rep(0, 7)) }), 7},
	} {
		if got := impl.NodeWorth(c.x); got != c.want {
			t.Errorf("%s: NodeWorth(%v) = %d, want %d", c.what, c.x, got, c.want)
		}
	}
}

func TestP1NodeThatIsNotValidHoldsNothing(t *testing.T) {
	for _, f := range faults() {
		x := changedNode(sampleNode(), f.change)
		if got := impl.NodeWorth(x); got != 0 {
			t.Errorf("%s: NodeWorth(%v) = %d", f.what, x, got)
		}
		for acct := range len(x.Accts) + 1 {
			if got := impl.NodeHas(x, acct); got != 0 {
				t.Errorf("%s: NodeHas(%v, %d) = %d", f.what, x, acct, got)
			}
		}
	}
}

func TestP10NodeHas(t *testing.T) {
	for _, x := range allNodes() {
		for _, acct := range append([]int{-1, 0, 1, 2, 3, 4, 5, len(x.Accts) - 1, len(x.Accts), 256, 1 << 32}, oddInts...) {
			want := 0
			if nodeModel(x) && slices.Contains([]int{0, 1, 2}[:len(x.Accts)], acct) {
				want = x.Accts[acct].Have
			}
			if got := impl.NodeHas(x, acct); got != want {
				t.Errorf("NodeHas(%v, %d) = %d, want %d", x, acct, got, want)
			}
		}
	}
}

func TestP10NodeHasExamples(t *testing.T) {
	full := changedNode(freshNode(1, 2, 3), func(x *impl.Node) { x.Accts[0].Have, x.Accts[2].Have, x.Stray = 1, impl.MaxNum, 9 })
	for _, c := range []struct {
		x          impl.Node
		acct, want int
	}{
		{sampleNode(), 0, 40}, {sampleNode(), 1, 5}, {sampleNode(), 2, 0}, {sampleNode(), 3, 0}, {sampleNode(), -1, 0}, {sampleNode(), -2, 0}, {sampleNode(), math.MaxInt, 0}, {sampleNode(), math.MinInt, 0},
		{full, 0, 1}, {full, 1, 0}, {full, 2, impl.MaxNum}, {full, 3, 0}, {impl.Node{}, 0, 0}, {impl.Node{}, -1, 0}, {impl.Node{}, math.MaxInt, 0},
	} {
		if got := impl.NodeHas(c.x, c.acct); got != c.want {
			t.Errorf("NodeHas(%v, %d) = %d, want %d", c.x, c.acct, got, c.want)
		}
	}
}

func sameNodeBothWays(t *testing.T, what string, a impl.Node, b impl.Node, want bool) {
	t.Helper()
	if impl.NodeSame(a, b) != want || impl.NodeSame(b, a) != want {
		t.Errorf("%s: NodeSame of %v and %v is %v", what, a, b, !want)
	}
}

func TestP10NodeSameSamples(t *testing.T) {
	samples := append(badNodes(), sampleNode())
	for i, x := range goodNodes() {
		if i%4 == 0 {
			samples = append(samples, x)
		}
	}
	for i, a := range samples {
		sameNodeBothWays(t, "a copy", a, cloneNode(a), true)
		for _, b := range samples[:i] {
			sameNodeBothWays(t, "samples", a, b, equalNodes(a, b))
		}
	}
}

// Every number of a node, at every depth, is one that makes a difference.
func TestP10NodeSameEveryNumber(t *testing.T) {
	for _, a := range append(allNodes(), sampleNode()) {
		if len(a.Accts) > 10 || len(a.Outs) > 10 {
			continue
		}
		b := cloneNode(a)
		for i, p := range numbersOf(&b) {
			was := *p
			for _, n := range []int{was ^ 1, was ^ 1<<40, -was - 1} {
				*p = n
				sameNodeBothWays(t, fmt.Sprintf("number %d", i), a, b, false)
			}
			*p = was
		}
		sameNodeBothWays(t, "all numbers restored", a, b, true)
	}
}

func TestP10NodeSameLengths(t *testing.T) {
	for _, a := range append(allNodes(), sampleNode()) {
		for _, b := range resized(a) {
			sameNodeBothWays(t, "a list of another length", a, b, equalNodes(a, b))
			if equalNodes(a, b) {
				t.Errorf("a change of a length has left %v as it was", a)
			}
		}
	}
}

func TestP10NodeSameOrders(t *testing.T) {
	for _, c := range []fault{
		{"accounts exchanged", func(x *impl.Node) { slices.Reverse(x.Accts) }}, {"acceptors exchanged", func(x *impl.Node) { slices.Reverse(x.Accs) }}, {"queues exchanged", func(x *impl.Node) { slices.Reverse(x.Outs) }}, {"Ins exchanged", func(x *impl.Node) { slices.Reverse(x.Ins) }},
		{"marks exchanged", func(x *impl.Node) { slices.Reverse(x.Accts[1].Marks) }}, {"reports exchanged", func(x *impl.Node) { slices.Reverse(x.Accts[1].Reps) }}, {"messages exchanged", func(x *impl.Node) { slices.Reverse(x.Outs[0].List) }},
		{"Came and Went exchanged", func(x *impl.Node) { x.Came, x.Went = x.Went, x.Came }}, {"Stray and Went exchanged", func(x *impl.Node) { x.Stray, x.Went = x.Went, x.Stray }}, {"Id and N exchanged", func(x *impl.Node) { x.Id, x.N = x.N, x.Id }},
	} {
		sameNodeBothWays(t, c.what, sampleNode(), changedNode(sampleNode(), c.change), false)
	}
}

// emptied returns a node in which every empty list is the given one: nil or not.
func emptied(x impl.Node, isNil bool) impl.Node {
	y := cloneNode(x)
	for i := range y.Accts {
		y.Accts[i].Marks, y.Accts[i].Reps = emptyAs(y.Accts[i].Marks, isNil), emptyAs(y.Accts[i].Reps, isNil)
	}
	for i := range y.Outs {
		y.Outs[i].List = emptyAs(y.Outs[i].List, isNil)
	}
	y.Accts, y.Outs, y.Ins, y.Accs = emptyAs(y.Accts, isNil), emptyAs(y.Outs, isNil), emptyAs(y.Ins, isNil), emptyAs(y.Accs, isNil)
	return y
}

func emptyAs[T any](l []T, isNil bool) []T {
	if len(l) > 0 {
		return l
	}
	if isNil {
		return nil
	}
	return []T{}
}

func TestP10NodesWithNilAndEmptyLists(t *testing.T) {
	for _, x := range append(allNodes(), sampleNode()) {
		none, empty := emptied(x, true), emptied(x, false)
		sameNodeBothWays(t, "nil and empty", none, empty, true)
		if impl.NodeOk(none) != impl.NodeOk(empty) || impl.NodeWorth(none) != impl.NodeWorth(empty) || impl.Waiting(none) != impl.Waiting(empty) || impl.NodeHas(none, 0) != impl.NodeHas(empty, 0) {
			t.Errorf("nil and empty lists make a difference to %v", x)
		}
	}
}

func TestP10Waiting(t *testing.T) {
	most := 0
	for _, x := range allNodes() {
		want := 0
		for _, o := range x.Outs {
			for range o.List {
				want++
			}
		}
		if got := impl.Waiting(x); got != want {
			t.Errorf("Waiting(%v) = %d, want %d", x, got, want)
		}
		most = max(most, want)
	}
	if most < 100 {
		t.Errorf("at most %d messages wait", most)
	}
}

func TestP10WaitingExamples(t *testing.T) {
	full := freshNode(0, 4, 1)
	for i := range 3 {
		full.Outs[1+i] = queued(100+i, impl.MaxBox)
	}
	for _, c := range []struct {
		what string
		x    impl.Node
		want int
	}{
		{"the zero value", impl.Node{}, 0}, {"empty Outs", impl.Node{Outs: []impl.Out{}}, 0}, {"a fresh node", freshNode(1, 3, 2), 0}, {"the sample", sampleNode(), 5}, {"full queues", full, 180},
		{"queues that were emptied", impl.Node{N: 2, Outs: []impl.Out{{Next: 50}, {Next: impl.MaxNum}}}, 0},
		{"only Outs", impl.Node{Outs: []impl.Out{queued(9, 3), queued(6, 2)}}, 5}, {"its own Out", impl.Node{N: 1, Outs: []impl.Out{queued(6, 4)}}, 4}, {"more Outs than nodes", impl.Node{N: 1, Outs: []impl.Out{queued(6, 4), queued(2, 1), {}, queued(9, 5)}}, 10},
		{"queues that are not valid", impl.Node{Outs: []impl.Out{{List: make([]impl.Msg, 7)}, {Next: -5, List: make([]impl.Msg, 200)}}}, 207},
	} {
		if got := impl.Waiting(c.x); got != c.want {
			t.Errorf("%s: Waiting(%v) = %d, want %d", c.what, c.x, got, c.want)
		}
	}
	for _, f := range partFaults() {
		x := changedNode(sampleNode(), f.change)
		want := len(x.Outs[0].List) + len(x.Outs[1].List) + len(x.Outs[2].List)
		if got := impl.Waiting(x); got != want || want < 2 {
			t.Errorf("%s: Waiting(%v) = %d, want %d", f.what, x, got, want)
		}
	}
}

// withSpare returns a copy of a list with the filler in the spare capacity behind it.
func withSpare[T any](l []T, filler T) []T {
	full := slices.Clone(l)
	for range spare {
		full = append(full, filler)
	}
	return full[:len(l)]
}

// watchedNode is a node whose lists, at every depth, and the spare capacity behind them are watched.
type watchedNode struct {
	x, before impl.Node
	ins       guarded[int]
	accs      guarded[impl.Acc]
	accts     []watchedAcct
	lists     []guarded[impl.Msg]
}

// watchNode puts behind each list what would be valid there, so that a function that reads it is seen.
func watchNode(x impl.Node) watchedNode {
	w := watchedNode{x: x, ins: guard(x.Ins, 0), accs: guard(x.Accs, accOf(2, 1, 1))}
	w.x.Ins, w.x.Accs = w.ins.arg, w.accs.arg
	accts, outs := []impl.Acct{}, []impl.Out{}
	for _, a := range x.Accts {
		w.accts = append(w.accts, watchAcct(a))
		accts = append(accts, w.accts[len(w.accts)-1].a)
	}
	for _, o := range x.Outs {
		w.lists = append(w.lists, guard(o.List, sampleMsg(0)))
		outs = append(outs, impl.Out{Next: o.Next, List: w.lists[len(w.lists)-1].arg})
	}
	w.x.Accts, w.x.Outs = withSpare(accts, openAcct(8)), withSpare(outs, impl.Out{Next: 1})
	w.before = cloneNode(w.full())
	return w
}

// full makes the spare capacity behind the accounts and queues a part of their lists.
func (w watchedNode) full() impl.Node {
	x := w.x
	x.Accts, x.Outs = x.Accts[:len(x.Accts)+spare], x.Outs[:len(x.Outs)+spare]
	return x
}

func (w watchedNode) unchanged(t *testing.T, what string) {
	t.Helper()
	w.ins.unchanged(t, what)
	w.accs.unchanged(t, what)
	for _, a := range w.accts {
		a.marks.unchanged(t, what)
		a.reps.unchanged(t, what)
	}
	for _, l := range w.lists {
		l.unchanged(t, what)
	}
	if !equalNodes(w.full(), w.before) {
		t.Errorf("%s: the node became %v, was %v", what, w.full(), w.before)
	}
}

// Neither the arguments nor the memory behind them change, and what lies there is not looked at.
func TestP10NodeArgumentsStay(t *testing.T) {
	for _, x := range append(allNodes(), sampleNode()) {
		w := watchNode(x)
		if impl.NodeOk(w.x) != nodeModel(x) || worthModel(x).Cmp(big.NewInt(int64(impl.NodeWorth(w.x)))) != 0 || impl.Waiting(w.x) != impl.Waiting(x) {
			t.Errorf("the memory behind the lists of %v makes a difference", x)
		}
		for _, acct := range append([]int{-1, 0, 1, 2, 3, 4}, oddInts...) {
			if impl.NodeHas(w.x, acct) != impl.NodeHas(x, acct) {
				t.Errorf("the memory behind the lists of %v makes a difference to NodeHas", x)
			}
		}
		sameNodeBothWays(t, "the memory behind the lists", w.x, x, true)
		sameNodeBothWays(t, "the same memory", w.x, w.x, true)
		for _, y := range resized(x)[:2] {
			sameNodeBothWays(t, "the memory behind the lists", w.x, y, false)
		}
		w.unchanged(t, "a function of chapter 10")
	}
}

// listsOf returns all lists in nodes, by their types.
func listsOf(nodes []impl.Node) ([][]impl.Acct, [][]impl.Out, [][]int, [][]impl.Acc) {
	accts, outs, ints, accs := [][]impl.Acct{}, [][]impl.Out{}, [][]int{}, [][]impl.Acc{}
	for _, x := range nodes {
		accts, outs, ints, accs = append(accts, x.Accts), append(outs, x.Outs), append(ints, x.Ins), append(accs, x.Accs)
		for _, a := range x.Accts {
			ints = append(ints, a.Marks)
		}
	}
	return accts, outs, ints, accs
}

func allApart[T any](t *testing.T, what string, lists [][]T) {
	t.Helper()
	for i, l := range lists {
		for _, other := range lists[:i] {
			if touch(l, other) {
				t.Errorf("%s: two lists share memory", what)
			}
		}
	}
}

// No list of a new node shares memory with another one, of the same node or of another, so that nothing that is done to one node is seen in the next.
func TestP10NodeNewIsNewMemory(t *testing.T) {
	nodes := []impl.Node{}
	eachPlace(func(id int, n int, accts int) {
		for range 2 {
			x, _ := impl.NodeNew(id, n, accts)
			nodes = append(nodes, x)
		}
	})
	accts, outs, ints, accs := listsOf(nodes)
	reps, lists := [][]impl.Rep{}, [][]impl.Msg{}
	for _, x := range nodes {
		for _, a := range x.Accts {
			reps = append(reps, a.Reps)
		}
		for _, o := range x.Outs {
			lists = append(lists, o.List)
		}
	}
	allApart(t, "Accts", accts)
	allApart(t, "Outs", outs)
	allApart(t, "Ins and Marks", ints)
	allApart(t, "Accs", accs)
	allApart(t, "Reps", reps)
	allApart(t, "the messages", lists)
	for _, x := range nodes {
		scribble(x.Accts, acctOf(99, 9, 9, []int{9}))
		scribble(x.Outs, queued(99, 9))
		scribble(x.Ins, 99)
		scribble(x.Accs, accOf(99, 9, 9))
	}
	eachPlace(func(id int, n int, accts int) {
		got, ok := impl.NodeNew(id, n, accts)
		isNode(t, "NodeNew after its results were changed", got, ok, freshNode(id, n, accts), true)
	})
}

// A share that a node has reported is fixed: with any other one the node is not valid.
func TestP4ReportedShareIsFixed(t *testing.T) {
	reported := 0
	for _, x := range append(goodNodes(), sampleNode()) {
		for i, a := range x.Accts {
			own := slices.Contains(reportersOf(a.Reps), x.Id)
			for _, amt := range []int{1, 5, impl.MaxAmt} {
				more, added := impl.AcctAdd(a, amt)
				less, taken := impl.AcctTake(a, amt)
				if added && impl.NodeOk(changedNode(x, func(y *impl.Node) { y.Accts[i] = more })) == own || taken && impl.NodeOk(changedNode(x, func(y *impl.Node) { y.Accts[i] = less })) == own {
					t.Errorf("NodeOk of %v does not tell whether account %d may change", x, i)
				}
			}
			if own {
				reported++
			}
		}
	}
	if reported < 10 {
		t.Errorf("only %d accounts were reported", reported)
	}
}

// bank is a run of nodes whose messages are repeated and reordered. Every change is made with the functions of the chapters up to this one.
type bank struct {
	nodes   []impl.Node
	bounced int
	strayed int
	denied  int
}

func newBank(t *testing.T, n int, accts int) *bank {
	t.Helper()
	b := &bank{}
	for id := range n {
		x, ok := impl.NodeNew(id, n, accts)
		if !ok {
			t.Fatalf("NodeNew(%d, %d, %d) fails", id, n, accts)
		}
		b.nodes = append(b.nodes, x)
	}
	return b
}

// take lets a node spend if it has enough, without asking any other one, and tells whether it did.
func (b *bank) take(t *testing.T, i int, acct int, amt int) bool {
	t.Helper()
	a, ok := impl.AcctTake(b.nodes[i].Accts[acct], amt)
	if ok != (amt <= impl.NodeHas(b.nodes[i], acct)) {
		t.Fatalf("node %d has %d, and whether it may spend %d is %v", i, impl.NodeHas(b.nodes[i], acct), amt, ok)
	}
	if !ok {
		b.denied++
		return false
	}
	b.nodes[i].Accts[acct] = a
	return true
}

func (b *bank) add(t *testing.T, i int, acct int, amt int) {
	t.Helper()
	a, ok := impl.AcctAdd(b.nodes[i].Accts[acct], amt)
	if !ok {
		t.Fatalf("%v refuses %d", b.nodes[i].Accts[acct], amt)
	}
	b.nodes[i].Accts[acct] = a
}

// send tells whether the queue had room.
func (b *bank) send(i int, j int, m impl.Msg) bool {
	o, ok := impl.OutPut(b.nodes[i].Outs[j], m)
	if ok {
		b.nodes[i].Outs[j] = o
	}
	return ok
}

func (b *bank) isOpen(i int, acct int) bool { return b.nodes[i].Accts[acct].State == impl.AsOpen }

// work lets money come in, go out, or move to another node.
func (b *bank) work(t *testing.T, r *rand.Rand) {
	t.Helper()
	i, j, acct, amt := r.Intn(len(b.nodes)), r.Intn(len(b.nodes)), r.Intn(len(b.nodes[0].Accts)), 1+r.Intn(60)
	if !b.isOpen(i, acct) {
		return
	}
	full := len(b.nodes[i].Outs[j].List) == impl.MaxBox
	switch k := r.Intn(4); {
	case k == 0:
		b.add(t, i, acct, amt)
		b.nodes[i].Came += amt
	case k == 1 || i == j:
		if b.take(t, i, acct, amt) {
			b.nodes[i].Went += amt
		}
	case k == 2 && !full && b.take(t, i, acct, amt):
		b.send(i, j, impl.Msg{Kind: impl.MgRights, Acct: acct, Amt: amt})
	case k == 3 && !full && b.take(t, i, acct, amt):
		b.send(i, j, impl.Msg{Kind: impl.MgCredit, Acct: r.Intn(len(b.nodes[0].Accts)), Amt: amt, Src: acct})
	}
}

// accept does at node j what a message from node i says, and tells whether it can be done now.
func (b *bank) accept(t *testing.T, i int, j int, m impl.Msg) bool {
	t.Helper()
	switch {
	case m.Kind == impl.MgRights || b.isOpen(j, m.Acct):
		b.add(t, j, m.Acct, m.Amt)
	case m.Kind == impl.MgCredit:
		if !b.send(j, i, impl.Msg{Kind: impl.MgBounce, Acct: m.Src, Amt: m.Amt}) {
			return false
		}
		b.bounced++
	default:
		b.nodes[j].Stray += m.Amt
		b.strayed++
	}
	return true
}

func (b *bank) deliver(t *testing.T, i int, j int, seq int) {
	t.Helper()
	m, there := impl.OutAt(b.nodes[i].Outs[j], seq)
	last, fresh := impl.InTake(b.nodes[j].Ins[i], seq)
	if there && fresh && b.accept(t, i, j, m) {
		b.nodes[j].Ins[i] = last
	}
}

func (b *bank) acknowledge(t *testing.T, i int, j int, seq int) {
	t.Helper()
	o, ok := impl.OutAck(b.nodes[i].Outs[j], seq)
	if !ok {
		t.Fatalf("the acknowledgement %d is refused by %v", seq, b.nodes[i].Outs[j])
	}
	b.nodes[i].Outs[j] = o
}

// shut closes an account at one node. The other ones do not hear of it, so that they go on sending to it.
func (b *bank) shut(i int, acct int) {
	if a, ok := impl.AcctShut(b.nodes[i].Accts[acct], i); ok && len(b.nodes) > 1 {
		b.nodes[i].Accts[acct] = a
	}
}

func (b *bank) act(t *testing.T, r *rand.Rand) {
	t.Helper()
	i, j := r.Intn(len(b.nodes)), r.Intn(len(b.nodes))
	switch k := r.Intn(300); {
	case k == 0:
		b.shut(i, r.Intn(len(b.nodes[0].Accts)))
	case k < 120:
		b.work(t, r)
	case k < 240:
		b.deliver(t, i, j, impl.OutFirst(b.nodes[i].Outs[j])+r.Intn(4)-1)
	default:
		b.acknowledge(t, i, j, max(0, b.nodes[j].Ins[i]-r.Intn(3)))
	}
}

// check compares what the nodes hold, and what is in transit, with what came in and went out.
func (b *bank) check(t *testing.T) {
	t.Helper()
	here, way, books := 0, 0, 0
	for i, x := range b.nodes {
		if !impl.NodeOk(x) {
			t.Fatalf("%v is not valid", x)
		}
		has, waiting := x.Stray, 0
		for acct := range x.Accts {
			has += impl.NodeHas(x, acct)
		}
		for j, o := range x.Outs {
			way += impl.OutWorth(o, b.nodes[j].Ins[i])
			waiting += len(o.List)
		}
		if impl.NodeWorth(x) != has || impl.Waiting(x) != waiting {
			t.Fatalf("NodeWorth(%v) = %d and Waiting %d, want %d and %d", x, impl.NodeWorth(x), impl.Waiting(x), has, waiting)
		}
		here += impl.NodeWorth(x)
		books += x.Came - x.Went
	}
	if here+way != books {
		t.Fatalf("the nodes hold %d, %d is in transit, and %d came in and did not go out", here, way, books)
	}
}

// finish lets everything arrive, and tells what waits then.
func (b *bank) finish(t *testing.T) int {
	t.Helper()
	waiting := 0
	for range 4 {
		for i, x := range b.nodes {
			for j := range x.Outs {
				for seq := impl.OutFirst(b.nodes[i].Outs[j]); seq < b.nodes[i].Outs[j].Next; seq++ {
					b.deliver(t, i, j, seq)
				}
				b.acknowledge(t, i, j, b.nodes[j].Ins[i])
			}
		}
		b.check(t)
	}
	for _, x := range b.nodes {
		waiting += impl.Waiting(x)
	}
	return waiting
}

// At any time, what the nodes hold and what is in transit is what came in and did not go out, and each node may spend what it has.
func TestP1NodesHoldWhatCameIn(t *testing.T) {
	seen, money := bank{}, 0
	for seed := range 60 {
		r := rand.New(rand.NewSource(int64(seed)))
		b := newBank(t, 1+seed%impl.MaxNodes, 1+seed%impl.MaxAccts)
		for range 600 {
			b.act(t, r)
			b.check(t)
		}
		if waiting := b.finish(t); waiting != 0 {
			t.Fatalf("seed %d: %d messages wait at the end", seed, waiting)
		}
		for _, x := range b.nodes {
			money += impl.NodeWorth(x)
		}
		seen.bounced, seen.strayed, seen.denied = seen.bounced+b.bounced, seen.strayed+b.strayed, seen.denied+b.denied
	}
	if seen.bounced < 20 || seen.strayed < 5 || seen.denied < 100 || money < 10000 {
		t.Errorf("only %d credits were returned, %d strayed, %d amounts were denied, and %d is there", seen.bounced, seen.strayed, seen.denied, money)
	}
}
