package tests

import (
	"fmt"
	"math"
	"math/rand"
	"slices"
	"testing"

	"loop.example/g00801/impl"
)

// formModel reports whether a record can be applied at a node, as far as ApForm tells.
func formModel(x impl.Node, r impl.Rec) bool {
	if _, ok := recRuleFor(r); !ok || !nodeModel(x) {
		return false
	}
	accts := len(x.Accts)
	if r.Acct >= accts || r.Other >= accts || r.To >= x.N {
		return false
	}
	if (r.Kind == 3 || r.Kind == 5 || r.Kind == 6) && r.To == x.Id {
		return false
	}
	return r.Kind != 5 || r.M.Acct < accts && r.M.Src < accts && (r.M.Kind != 4 || r.M.Amt < x.N)
}

// effect does what a record says without any check on the way, and notes the codes that the document lists, in order.
type effect struct {
	x     impl.Node
	codes []int
}

func (e *effect) code(holds bool, code int) {
	if holds {
		e.codes = append(e.codes, code)
	}
}

func (e *effect) put(to int, kind int, acct int, amt int, src int) {
	o := &e.x.Outs[to]
	o.List = append(o.List, impl.Msg{Kind: kind, Acct: acct, Amt: amt, Src: src})
	o.Next++
}

func (e *effect) putAll(kind int, acct int, amt int) {
	for to := range e.x.N {
		if to != e.x.Id {
			e.put(to, kind, acct, amt, 0)
		}
	}
}

func (e *effect) isOpen(acct int) bool { return e.x.Accts[acct].State == 0 }

// spend is what RkWent, RkGive and RkMove have in common.
func (e *effect) spend(r impl.Rec) {
	e.code(!e.isOpen(r.Acct), 3)
	e.code(e.x.Accts[r.Acct].Have < r.Amt, 2)
	e.x.Accts[r.Acct].Have -= r.Amt
}

func (e *effect) move(r impl.Rec) {
	e.spend(r)
	if r.To != e.x.Id {
		e.put(r.To, 2, r.Other, r.Amt, r.Acct)
		return
	}
	e.code(!e.isOpen(r.Other), 3)
	e.x.Accts[r.Other].Have += r.Amt
}

func (e *effect) close(acct int, by int) {
	e.x.Accts[acct].State, e.x.Accts[acct].By = 1, by
	e.putAll(4, acct, by)
	e.pending(acct)
}

func (e *effect) pending(acct int) {
	a := &e.x.Accts[acct]
	if len(a.Marks) == e.x.N-1 && !slices.Contains(reportersOf(a.Reps), e.x.Id) {
		e.addReport(a, e.x.Id, a.Have)
		e.putAll(5, acct, a.Have)
	}
}

func (e *effect) addReport(a *impl.Acct, node int, amt int) {
	a.Reps = putModel(a.Reps, rep(node, amt), func(r impl.Rep) int { return r.Node })
	if len(a.Reps) == e.x.N {
		a.State = 2
	}
}

func (e *effect) took(r impl.Rec) {
	e.code(r.Amt != e.x.Ins[r.To]+1, 5)
	e.x.Ins[r.To] = r.Amt
	a, open := &e.x.Accts[r.M.Acct], e.isOpen(r.M.Acct)
	switch {
	case r.M.Kind == 1 || r.M.Kind < 4 && open:
		a.Have += r.M.Amt
	case r.M.Kind == 2:
		e.put(r.To, 3, r.M.Src, r.M.Amt, 0)
	case r.M.Kind == 3:
		e.x.Stray += r.M.Amt
	case r.M.Kind == 4:
		if open {
			e.close(r.M.Acct, r.M.Amt)
		}
		e.code(slices.Contains(a.Marks, r.To), 5)
		a.Marks = putModel(a.Marks, r.To, func(n int) int { return n })
		e.pending(r.M.Acct)
	default:
		e.code(open, 4)
		e.code(slices.Contains(reportersOf(a.Reps), r.To), 5)
		e.addReport(a, r.To, r.M.Amt)
	}
}

func (e *effect) heard(r impl.Rec) {
	o := &e.x.Outs[r.To]
	e.code(r.Amt >= o.Next, 5)
	for len(o.List) > 0 && o.Next-len(o.List) <= r.Amt {
		o.List = o.List[1:]
	}
}

func (e *effect) run(r impl.Rec) {
	switch r.Kind {
	case 1:
		e.code(!e.isOpen(r.Acct), 3)
		e.x.Accts[r.Acct].Have += r.Amt
		e.x.Came += r.Amt
	case 2:
		e.spend(r)
		e.x.Went += r.Amt
	case 3:
		e.spend(r)
		e.put(r.To, 1, r.Acct, r.Amt, 0)
	case 4:
		e.move(r)
	case 5:
		e.took(r)
	case 6:
		e.heard(r)
	case 7:
		e.code(r.Amt <= e.x.Accs[r.Acct].Prom, 5)
		e.x.Accs[r.Acct].Prom = r.Amt
	case 8:
		e.code(r.Amt < e.x.Accs[r.Acct].Prom, 5)
		e.x.Accs[r.Acct] = accOf(r.Amt, r.Amt, r.To+1)
	case 9:
		e.code(!e.isOpen(r.Acct), 5)
		e.close(r.Acct, r.To)
	}
}

func applyModel(x impl.Node, r impl.Rec) (impl.Node, int) {
	if !formModel(x, r) {
		return impl.Node{}, 1
	}
	e := &effect{x: cloneNode(x)}
	e.run(r)
	e.code(!nodeModel(e.x), 4)
	if len(e.codes) > 0 {
		return impl.Node{}, e.codes[0]
	}
	return e.x, 0
}

// applies compares what all functions of the chapter do with one record.
func applies(t *testing.T, what string, x impl.Node, r impl.Rec, want impl.Node, code int) {
	t.Helper()
	got, c := impl.Apply(x, r)
	if c != code || !equalNodes(got, want) {
		t.Fatalf("%s: Apply(%v, %v) = %v, %d, want %v, %d", what, x, r, got, c, want, code)
	}
	if check := impl.Check(x, r); check != code {
		t.Fatalf("%s: Check(%v, %v) = %d, want %d", what, x, r, check, code)
	}
	stop := 1
	if code != 0 {
		want, stop = x, 0
	}
	if all, k := impl.ApplyAll(x, []impl.Rec{r}); k != stop || !equalNodes(all, want) {
		t.Fatalf("%s: ApplyAll(%v, [%v]) = %v, %d", what, x, r, all, k)
	}
}

func appliesAsModel(t *testing.T, x impl.Node, r impl.Rec) int {
	t.Helper()
	want, code := applyModel(x, r)
	applies(t, "as the model", x, r, want, code)
	return code
}

// trial is a record, the code that it has, and what becomes of the node if it is applied.
type trial struct {
	what   string
	r      impl.Rec
	code   int
	change func(x *impl.Node)
}

func appliesEach(t *testing.T, x impl.Node, trials []trial) {
	t.Helper()
	for _, c := range trials {
		want := impl.Node{}
		if c.code == impl.ApOk {
			want = changedNode(x, c.change)
		}
		applies(t, c.what, x, c.r, want, c.code)
	}
}

func still(x *impl.Node) {}

// busyNode is node 1 of 3. Account 0 is open, and account 1 is closed: it has one mark, and the report of node 0.
func busyNode() impl.Node {
	return impl.Node{
		Id: 1, N: 3, Accts: []impl.Acct{openAcct(40), acctOf(5, 1, 2, []int{0}, rep(0, 9))},
		Outs: []impl.Out{queued(9, 3), {Next: 1}, queued(6, 2)}, Ins: []int{4, 0, 7}, Accs: []impl.Acc{{}, accOf(9, 6, 3)}, Stray: 8, Came: 100, Went: 30,
	}
}

// openNode is busyNode, but account 1 is open.
func openNode() impl.Node {
	return changedNode(busyNode(), func(x *impl.Node) { x.Accts[1] = openAcct(5) })
}

func appended(x *impl.Node, to int, l ...impl.Msg) {
	x.Outs[to].List = append(x.Outs[to].List, l...)
	x.Outs[to].Next += len(l)
}

func rights(acct int, amt int) impl.Msg { return impl.Msg{Kind: impl.MgRights, Acct: acct, Amt: amt} }

func credit(acct int, amt int, src int) impl.Msg {
	return impl.Msg{Kind: impl.MgCredit, Acct: acct, Amt: amt, Src: src}
}

func bounce(acct int, amt int) impl.Msg { return impl.Msg{Kind: impl.MgBounce, Acct: acct, Amt: amt} }

func mark(acct int, by int) impl.Msg { return impl.Msg{Kind: impl.MgMark, Acct: acct, Amt: by} }

func report(acct int, amt int) impl.Msg { return impl.Msg{Kind: impl.MgReport, Acct: acct, Amt: amt} }

func come(acct int, amt int) impl.Rec { return impl.Rec{Kind: impl.RkCome, Acct: acct, Amt: amt} }

func went(acct int, amt int) impl.Rec { return impl.Rec{Kind: impl.RkWent, Acct: acct, Amt: amt} }

func give(acct int, to int, amt int) impl.Rec {
	return impl.Rec{Kind: impl.RkGive, Acct: acct, To: to, Amt: amt}
}

func move(acct int, other int, to int, amt int) impl.Rec {
	return impl.Rec{Kind: impl.RkMove, Acct: acct, Other: other, To: to, Amt: amt}
}

func took(from int, seq int, m impl.Msg) impl.Rec {
	return impl.Rec{Kind: impl.RkTook, To: from, Amt: seq, M: m}
}

func heard(from int, seq int) impl.Rec { return impl.Rec{Kind: impl.RkHeard, To: from, Amt: seq} }

func prom(acct int, ballot int) impl.Rec {
	return impl.Rec{Kind: impl.RkProm, Acct: acct, Amt: ballot}
}

func vote(acct int, to int, ballot int) impl.Rec {
	return impl.Rec{Kind: impl.RkVote, Acct: acct, To: to, Amt: ballot}
}

func shut(acct int, by int) impl.Rec { return impl.Rec{Kind: impl.RkShut, Acct: acct, To: by} }

func TestP10ConstantsOfCodes(t *testing.T) {
	got := []int{impl.ApOk, impl.ApForm, impl.ApFunds, impl.ApShut, impl.ApFull, impl.ApStale, impl.ApDown}
	if !slices.Equal(got, []int{0, 1, 2, 3, 4, 5, 6}) {
		t.Errorf("the constants of chapter 12 are %v", got)
	}
}

func TestP10ApName(t *testing.T) {
	for code, want := range []string{"ok", "form", "funds", "shut", "full", "stale", "down", "", "", ""} {
		if got := impl.ApName(code); got != want {
			t.Errorf("ApName(%d) = %q, want %q", code, got, want)
		}
	}
	for _, code := range append([]int{-1, -6, 7, 8, 100, 256, 257, 1 << 32, 1<<32 + 1, math.MinInt, math.MaxInt}, oddInts...) {
		if got := impl.ApName(code); got != "" {
			t.Errorf("ApName(%d) = %q", code, got)
		}
	}
}

func TestP10ApplyComeAndWent(t *testing.T) {
	has := func(amt int) func(x *impl.Node) {
		return func(x *impl.Node) { x.Accts[0].Have, x.Went = 40-amt, 30+amt }
	}
	appliesEach(t, busyNode(), []trial{
		{"1 comes", come(0, 1), impl.ApOk, func(x *impl.Node) { x.Accts[0].Have, x.Came = 41, 101 }},
		{"MaxAmt comes", come(0, impl.MaxAmt), impl.ApOk, func(x *impl.Node) { x.Accts[0].Have, x.Came = 40+impl.MaxAmt, 100+impl.MaxAmt }},
		{"to a closed account", come(1, 1), impl.ApShut, nil},
		{"1 goes", went(0, 1), impl.ApOk, has(1)},
		{"all but 1 goes", went(0, 39), impl.ApOk, has(39)},
		{"all goes", went(0, 40), impl.ApOk, has(40)},
		{"1 more than all", went(0, 41), impl.ApFunds, nil},
		{"MaxAmt", went(0, impl.MaxAmt), impl.ApFunds, nil},
		{"from a closed account", went(1, 1), impl.ApShut, nil},
		{"more than all from a closed account", went(1, 6), impl.ApShut, nil},
	})
	appliesEach(t, openNode(), []trial{
		{"to the second account", come(1, 3), impl.ApOk, func(x *impl.Node) { x.Accts[1].Have, x.Came = 8, 103 }},
		{"from the second account", went(1, 5), impl.ApOk, func(x *impl.Node) { x.Accts[1].Have, x.Went = 0, 35 }},
		{"too much from the second account", went(1, 6), impl.ApFunds, nil},
	})
}

func TestP10ApplyGive(t *testing.T) {
	appliesEach(t, busyNode(), []trial{
		{"to the first node", give(0, 0, 1), impl.ApOk, func(x *impl.Node) { x.Accts[0].Have = 39; appended(x, 0, rights(0, 1)) }},
		{"all but 1", give(0, 2, 39), impl.ApOk, func(x *impl.Node) { x.Accts[0].Have = 1; appended(x, 2, rights(0, 39)) }},
		{"all", give(0, 2, 40), impl.ApOk, func(x *impl.Node) { x.Accts[0].Have = 0; appended(x, 2, rights(0, 40)) }},
		{"1 more than all", give(0, 2, 41), impl.ApFunds, nil},
		{"of a closed account", give(1, 2, 5), impl.ApShut, nil},
		{"too much of a closed account", give(1, 2, 6), impl.ApShut, nil},
		{"to itself", give(0, 1, 1), impl.ApForm, nil},
		{"too much to itself", give(0, 1, 41), impl.ApForm, nil},
		{"to node N", give(0, 3, 1), impl.ApForm, nil},
	})
	appliesEach(t, openNode(), []trial{
		{"of the second account", give(1, 0, 2), impl.ApOk, func(x *impl.Node) { x.Accts[1].Have = 3; appended(x, 0, rights(1, 2)) }},
	})
}

func TestP10ApplyMove(t *testing.T) {
	appliesEach(t, openNode(), []trial{
		{"here", move(0, 1, 1, 15), impl.ApOk, func(x *impl.Node) { x.Accts[0].Have, x.Accts[1].Have = 25, 20 }},
		{"all but 1 here", move(0, 1, 1, 39), impl.ApOk, func(x *impl.Node) { x.Accts[0].Have, x.Accts[1].Have = 1, 44 }},
		{"all here", move(0, 1, 1, 40), impl.ApOk, func(x *impl.Node) { x.Accts[0].Have, x.Accts[1].Have = 0, 45 }},
		{"1 more than all here", move(0, 1, 1, 41), impl.ApFunds, nil},
		{"back", move(1, 0, 1, 5), impl.ApOk, func(x *impl.Node) { x.Accts[0].Have, x.Accts[1].Have = 45, 0 }},
		{"to the same account here", move(0, 0, 1, 40), impl.ApOk, still},
		{"1 more than all to the same account here", move(0, 0, 1, 41), impl.ApFunds, nil},
		{"to another node", move(0, 1, 2, 15), impl.ApOk, func(x *impl.Node) { x.Accts[0].Have = 25; appended(x, 2, credit(1, 15, 0)) }},
		{"all to another node", move(1, 0, 0, 5), impl.ApOk, func(x *impl.Node) { x.Accts[1].Have = 0; appended(x, 0, credit(0, 5, 1)) }},
		{"to the same account at another node", move(1, 1, 0, 4), impl.ApOk, func(x *impl.Node) { x.Accts[1].Have = 1; appended(x, 0, credit(1, 4, 1)) }},
		{"1 more than all to another node", move(1, 0, 0, 6), impl.ApFunds, nil},
		{"to node N", move(0, 1, 3, 15), impl.ApForm, nil},
	})
	appliesEach(t, busyNode(), []trial{
		{"to a closed account here", move(0, 1, 1, 40), impl.ApShut, nil},
		{"too much to a closed account here", move(0, 1, 1, 41), impl.ApFunds, nil},
		{"to an account that is closed here, at another node", move(0, 1, 2, 40), impl.ApOk, func(x *impl.Node) { x.Accts[0].Have = 0; appended(x, 2, credit(1, 40, 0)) }},
		{"too much to another node", move(0, 1, 2, 41), impl.ApFunds, nil},
		{"from a closed account here", move(1, 0, 1, 5), impl.ApShut, nil},
		{"from a closed account to another node", move(1, 0, 0, 5), impl.ApShut, nil},
		{"too much from a closed account", move(1, 0, 1, 6), impl.ApShut, nil},
		{"from a closed account to itself", move(1, 1, 1, 5), impl.ApShut, nil},
	})
}

func TestP10ApplyTookAmounts(t *testing.T) {
	accepted := func(have int) func(x *impl.Node) {
		return func(x *impl.Node) { x.Accts[0].Have, x.Ins[2] = have, 8 }
	}
	appliesEach(t, busyNode(), []trial{
		{"rights", took(2, 8, rights(0, 1)), impl.ApOk, accepted(41)},
		{"many rights", took(2, 8, rights(0, impl.MaxAmt)), impl.ApOk, accepted(40 + impl.MaxAmt)},
		{"rights of a closed account", took(2, 8, rights(1, 3)), impl.ApOk, func(x *impl.Node) { x.Accts[1].Have, x.Ins[2] = 8, 8 }},
		{"rights of a closed account from a node whose mark is there", took(0, 5, rights(1, 3)), impl.ApOk, func(x *impl.Node) { x.Accts[1].Have, x.Ins[0] = 8, 5 }},
		{"a credit", took(2, 8, credit(0, 3, 1)), impl.ApOk, accepted(43)},
		{"a credit from the same account", took(2, 8, credit(0, 3, 0)), impl.ApOk, accepted(43)},
		{"a credit to a closed account", took(2, 8, credit(1, 3, 0)), impl.ApOk, func(x *impl.Node) { x.Ins[2] = 8; appended(x, 2, bounce(0, 3)) }},
		{"a credit to a closed account from itself", took(0, 5, credit(1, 3, 1)), impl.ApOk, func(x *impl.Node) { x.Ins[0] = 5; appended(x, 0, bounce(1, 3)) }},
		{"a bounce", took(2, 8, bounce(0, 3)), impl.ApOk, accepted(43)},
		{"a bounce at a closed account", took(2, 8, bounce(1, 3)), impl.ApOk, func(x *impl.Node) { x.Ins[2], x.Stray = 8, 11 }},
	})
}

// Each kind of message arrives too early and too late, at an open and at a closed account.
func TestP10ApplyTookOnlyTheNext(t *testing.T) {
	x := busyNode()
	for _, acct := range []int{0, 1} {
		for _, m := range []impl.Msg{rights(acct, 3), credit(acct, 3, 0), bounce(acct, 3), mark(acct, 2), report(acct, 3)} {
			for _, seq := range []int{1, 6, 7, 9, 10, impl.MaxNum} {
				applies(t, "not the next", x, took(2, seq, m), impl.Node{}, impl.ApStale)
			}
			want, code := applyModel(x, took(2, 8, m))
			applies(t, "the next", x, took(2, 8, m), want, code)
			if late := m.Kind == impl.MgReport && acct == 0; late != (code == impl.ApFull) || code != impl.ApOk && !late {
				t.Errorf("%v as the next message has the code %d", m, code)
			}
		}
	}
	first := freshNode(0, 2, 1)
	appliesEach(t, first, []trial{
		{"the first one", took(1, 1, rights(0, 3)), impl.ApOk, func(x *impl.Node) { x.Accts[0].Have, x.Ins[1] = 3, 1 }},
		{"the second one first", took(1, 2, rights(0, 3)), impl.ApStale, nil},
		{"number 0", took(1, 0, rights(0, 3)), impl.ApForm, nil},
	})
	last := changedNode(first, func(x *impl.Node) { x.Ins[1] = impl.MaxNum - 1 })
	appliesEach(t, last, []trial{
		{"the last number", took(1, impl.MaxNum, rights(0, 3)), impl.ApOk, func(x *impl.Node) { x.Accts[0].Have, x.Ins[1] = 3, impl.MaxNum }},
		{"no number", took(1, impl.MaxNum+1, rights(0, 3)), impl.ApForm, nil},
	})
	over := changedNode(first, func(x *impl.Node) { x.Ins[1] = impl.MaxNum })
	appliesEach(t, over, []trial{
		{"the last number again", took(1, impl.MaxNum, rights(0, 3)), impl.ApStale, nil},
		{"no number", took(1, impl.MaxNum+1, rights(0, 3)), impl.ApForm, nil},
	})
}

func TestP10ApplyTookMark(t *testing.T) {
	appliesEach(t, busyNode(), []trial{
		{"closes the account", took(2, 8, mark(0, 2)), impl.ApOk, func(x *impl.Node) {
			x.Accts[0], x.Ins[2] = acctOf(40, 1, 2, []int{2}), 8
			appended(x, 0, mark(0, 2))
			appended(x, 2, mark(0, 2))
		}},
		{"closes the account on behalf of this node", took(0, 5, mark(0, 1)), impl.ApOk, func(x *impl.Node) {
			x.Accts[0], x.Ins[0] = acctOf(40, 1, 1, []int{0}), 5
			appended(x, 0, mark(0, 1))
			appended(x, 2, mark(0, 1))
		}},
		{"one that is there", took(0, 5, mark(1, 2)), impl.ApStale, nil},
		{"the last one", took(2, 8, mark(1, 2)), impl.ApOk, func(x *impl.Node) {
			x.Accts[1], x.Ins[2] = acctOf(5, 1, 2, []int{0, 2}, rep(0, 9), rep(1, 5)), 8
			appended(x, 0, report(1, 5))
			appended(x, 2, report(1, 5))
		}},
		{"the last one, on behalf of another node", took(2, 8, mark(1, 0)), impl.ApOk, func(x *impl.Node) {
			x.Accts[1], x.Ins[2] = acctOf(5, 1, 2, []int{0, 2}, rep(0, 9), rep(1, 5)), 8
			appended(x, 0, report(1, 5))
			appended(x, 2, report(1, 5))
		}},
		{"on behalf of node N", took(2, 8, mark(0, 3)), impl.ApForm, nil},
		{"on behalf of node N, of a closed account", took(2, 8, mark(1, 3)), impl.ApForm, nil},
	})
	appliesEach(t, changedNode(busyNode(), func(x *impl.Node) { x.Accts[1] = acctOf(5, 1, 2, []int{2}) }), []trial{
		{"in front of another", took(0, 5, mark(1, 2)), impl.ApOk, func(x *impl.Node) {
			x.Accts[1], x.Ins[0] = acctOf(5, 1, 2, []int{0, 2}, rep(1, 5)), 5
			appended(x, 0, report(1, 5))
			appended(x, 2, report(1, 5))
		}},
	})
	appliesEach(t, changedNode(busyNode(), func(x *impl.Node) { x.Accts[1] = acctOf(5, 1, 2, []int{0}, rep(0, 9), rep(2, 0)) }), []trial{
		{"the last one behind all reports", took(2, 8, mark(1, 2)), impl.ApOk, func(x *impl.Node) {
			x.Accts[1], x.Ins[2] = acctOf(5, 2, 2, []int{0, 2}, rep(0, 9), rep(1, 5), rep(2, 0)), 8
			appended(x, 0, report(1, 5))
			appended(x, 2, report(1, 5))
		}},
	})
	appliesEach(t, sampleNode(), []trial{{"behind the last one", took(2, 8, mark(1, 2)), impl.ApStale, nil}})
}

// Of two nodes, the first mark is the last one as well: it closes the account, and the node reports at once.
func TestP10ApplyTookMarkOfTwo(t *testing.T) {
	x := changedNode(freshNode(1, 2, 2), func(x *impl.Node) { x.Accts[1].Have = 70 })
	appliesEach(t, x, []trial{
		{"the only one", took(0, 1, mark(1, 0)), impl.ApOk, func(x *impl.Node) {
			x.Accts[1], x.Ins[0] = acctOf(70, 1, 0, []int{0}, rep(1, 70)), 1
			appended(x, 0, mark(1, 0), report(1, 70))
		}},
		{"the only one of an account without money", took(0, 1, mark(0, 1)), impl.ApOk, func(x *impl.Node) {
			x.Accts[0], x.Ins[0] = acctOf(0, 1, 1, []int{0}, rep(1, 0)), 1
			appended(x, 0, mark(0, 1), report(0, 0))
		}},
		{"on behalf of node N", took(0, 1, mark(1, 2)), impl.ApForm, nil},
	})
	shutHere := changedNode(x, func(x *impl.Node) { x.Accts[1] = acctOf(70, 1, 1, nil, rep(0, 5)) })
	appliesEach(t, shutHere, []trial{
		{"the only one, behind the report", took(0, 1, mark(1, 1)), impl.ApOk, func(x *impl.Node) {
			x.Accts[1], x.Ins[0] = acctOf(70, 2, 1, []int{0}, rep(0, 5), rep(1, 70)), 1
			appended(x, 0, report(1, 70))
		}},
	})
}

func TestP10ApplyTookReport(t *testing.T) {
	appliesEach(t, busyNode(), []trial{
		{"at an open account", took(2, 8, report(0, 3)), impl.ApFull, nil},
		{"at an open account, not the next", took(2, 7, report(0, 3)), impl.ApStale, nil},
		{"another one", took(2, 8, report(1, 3)), impl.ApOk, func(x *impl.Node) { x.Accts[1].Reps, x.Ins[2] = []impl.Rep{rep(0, 9), rep(2, 3)}, 8 }},
		{"of nothing", took(2, 8, report(1, 0)), impl.ApOk, func(x *impl.Node) { x.Accts[1].Reps, x.Ins[2] = []impl.Rep{rep(0, 9), rep(2, 0)}, 8 }},
		{"of MaxNum", took(2, 8, report(1, impl.MaxNum)), impl.ApOk, func(x *impl.Node) { x.Accts[1].Reps, x.Ins[2] = []impl.Rep{rep(0, 9), rep(2, impl.MaxNum)}, 8 }},
		{"a second one", took(0, 5, report(1, 9)), impl.ApStale, nil},
		{"a second one of another share", took(0, 5, report(1, 8)), impl.ApStale, nil},
	})
	appliesEach(t, sampleNode(), []trial{
		{"the last one", took(2, 8, report(1, 3)), impl.ApOk, func(x *impl.Node) {
			x.Accts[1], x.Ins[2] = acctOf(5, 2, 2, []int{0, 2}, rep(0, 9), rep(1, 5), rep(2, 3)), 8
		}},
		{"a second one", took(0, 5, report(1, 9)), impl.ApStale, nil},
	})
	done := changedNode(sampleNode(), func(x *impl.Node) {
		x.Accts[1] = acctOf(5, 2, 2, []int{0, 2}, rep(0, 9), rep(1, 5), rep(2, 3))
	})
	appliesEach(t, done, []trial{
		{"behind the last one", took(2, 8, report(1, 3)), impl.ApStale, nil},
		{"a credit behind the last one", took(2, 8, credit(1, 3, 1)), impl.ApOk, func(x *impl.Node) { x.Ins[2] = 8; appended(x, 2, bounce(1, 3)) }},
		{"a bounce behind the last one", took(2, 8, bounce(1, 3)), impl.ApOk, func(x *impl.Node) { x.Ins[2], x.Stray = 8, 11 }},
		{"rights behind the last one", took(2, 8, rights(1, 3)), impl.ApFull, nil},
	})
}

func TestP10ApplyHeard(t *testing.T) {
	left := func(count int) func(x *impl.Node) {
		return func(x *impl.Node) { x.Outs[0].List = x.Outs[0].List[3-count:] }
	}
	appliesEach(t, busyNode(), []trial{
		{"nothing", heard(0, 0), impl.ApOk, still},
		{"what was heard before", heard(0, 5), impl.ApOk, still},
		{"the first one", heard(0, 6), impl.ApOk, left(2)},
		{"the second one", heard(0, 7), impl.ApOk, left(1)},
		{"the last one", heard(0, 8), impl.ApOk, left(0)},
		{"the next one", heard(0, 9), impl.ApStale, nil},
		{"MaxNum", heard(0, impl.MaxNum), impl.ApStale, nil},
		{"the last one of another queue", heard(2, 5), impl.ApOk, func(x *impl.Node) { x.Outs[2].List = nil }},
		{"the next one of another queue", heard(2, 6), impl.ApStale, nil},
		{"from itself", heard(1, 0), impl.ApForm, nil},
		{"the next one from itself", heard(1, 1), impl.ApForm, nil},
		{"from node N", heard(3, 0), impl.ApForm, nil},
		{"more than MaxNum", heard(0, impl.MaxNum+1), impl.ApForm, nil},
		{"less than 0", heard(0, -1), impl.ApForm, nil},
	})
	appliesEach(t, freshNode(0, 2, 1), []trial{{"nothing was sent", heard(1, 0), impl.ApOk, still}, {"nothing was sent, but 1 is heard", heard(1, 1), impl.ApStale, nil}})
}

func TestP10ApplyPromAndVote(t *testing.T) {
	becomes := func(acct int, a impl.Acc) func(x *impl.Node) { return func(x *impl.Node) { x.Accs[acct] = a } }
	appliesEach(t, busyNode(), []trial{
		{"a first promise", prom(0, 1), impl.ApOk, becomes(0, accOf(1, 0, 0))},
		{"a promise of MaxNum", prom(0, impl.MaxNum), impl.ApOk, becomes(0, accOf(impl.MaxNum, 0, 0))},
		{"a smaller promise", prom(1, 8), impl.ApStale, nil},
		{"the same promise", prom(1, 9), impl.ApStale, nil},
		{"a greater promise", prom(1, 10), impl.ApOk, becomes(1, accOf(10, 6, 3))},
		{"a promise of ballot 0", prom(0, 0), impl.ApForm, nil},
		{"a promise above MaxNum", prom(0, impl.MaxNum+1), impl.ApForm, nil},
		{"a first vote", vote(0, 2, 1), impl.ApOk, becomes(0, accOf(1, 1, 3))},
		{"a vote for this node", vote(0, 1, 7), impl.ApOk, becomes(0, accOf(7, 7, 2))},
		{"a vote below the promise", vote(1, 0, 8), impl.ApStale, nil},
		{"a vote at the ballot that was accepted", vote(1, 2, 6), impl.ApStale, nil},
		{"a vote at the promise", vote(1, 0, 9), impl.ApOk, becomes(1, accOf(9, 9, 1))},
		{"a vote above the promise", vote(1, 1, 10), impl.ApOk, becomes(1, accOf(10, 10, 2))},
		{"a vote of ballot 0", vote(0, 0, 0), impl.ApForm, nil},
		{"a vote for node N", vote(0, 3, 10), impl.ApForm, nil},
		{"a vote below the promise for node N", vote(1, 3, 8), impl.ApForm, nil},
	})
	most := changedNode(busyNode(), func(x *impl.Node) { x.Accs[0] = accOf(impl.MaxNum, impl.MaxNum, 1) })
	appliesEach(t, most, []trial{{"no promise above MaxNum", prom(0, impl.MaxNum), impl.ApStale, nil}, {"the last vote", vote(0, 2, impl.MaxNum), impl.ApOk, becomes(0, accOf(impl.MaxNum, impl.MaxNum, 3))}})
	appliesEach(t, sampleNode(), []trial{{"a promise for a closed account", prom(1, 10), impl.ApOk, becomes(1, accOf(10, 6, 3))}, {"a vote for a closed account", vote(1, 0, 9), impl.ApOk, becomes(1, accOf(9, 9, 1))}})
}

func TestP10ApplyShut(t *testing.T) {
	closes := func(acct int, have int, by int) func(x *impl.Node) {
		return func(x *impl.Node) {
			x.Accts[acct] = acctOf(have, 1, by, nil)
			for to := range x.Outs {
				if to != x.Id {
					appended(x, to, mark(acct, by))
				}
			}
		}
	}
	appliesEach(t, busyNode(), []trial{
		{"on behalf of the first node", shut(0, 0), impl.ApOk, closes(0, 40, 0)},
		{"on behalf of itself", shut(0, 1), impl.ApOk, closes(0, 40, 1)},
		{"on behalf of the last node", shut(0, 2), impl.ApOk, closes(0, 40, 2)},
		{"on behalf of node N", shut(0, 3), impl.ApForm, nil},
		{"a closed account", shut(1, 0), impl.ApStale, nil},
		{"a closed account, on behalf of the same node", shut(1, 2), impl.ApStale, nil},
		{"a closed account, on behalf of node N", shut(1, 3), impl.ApForm, nil},
	})
	appliesEach(t, sampleNode(), []trial{{"an account that has reported", shut(1, 0), impl.ApStale, nil}})
	two := changedNode(freshNode(0, 2, 1), func(x *impl.Node) { x.Accts[0].Have = 9 })
	appliesEach(t, two, []trial{{"of two nodes", shut(0, 1), impl.ApOk, closes(0, 9, 1)}})
	most := changedNode(freshNode(2, impl.MaxNodes, 3), func(x *impl.Node) { x.Accts[2].Have = impl.MaxNum })
	appliesEach(t, most, []trial{{"of MaxNodes", shut(2, 3), impl.ApOk, closes(2, impl.MaxNum, 3)}})
}

// The only node needs no marks: it reports at once, and so is done.
func TestP10ApplyShutAlone(t *testing.T) {
	for _, have := range []int{0, 7, impl.MaxNum} {
		alone := changedNode(freshNode(0, 1, 2), func(x *impl.Node) { x.Accts[1].Have = have })
		appliesEach(t, alone, []trial{
			{"alone", shut(1, 0), impl.ApOk, func(x *impl.Node) { x.Accts[1] = acctOf(have, 2, 0, nil, rep(0, have)) }},
			{"alone, on behalf of node N", shut(1, 1), impl.ApForm, nil},
		})
		done, _ := impl.Apply(alone, shut(1, 0))
		appliesEach(t, done, []trial{{"again", shut(1, 0), impl.ApStale, nil}, {"what comes then", come(1, 1), impl.ApShut, nil}})
		if sum, ok := impl.FinalOf(done.Accts[1]); !ok || sum != have {
			t.Errorf("the final sum is %d, %v, want %d", sum, ok, have)
		}
	}
}

func TestP10ApplyForm(t *testing.T) {
	x := openNode()
	for _, r := range []impl.Rec{
		{}, {Amt: 1}, {Kind: 10, Amt: 1}, {Kind: -1, Amt: 1}, come(2, 1), come(-1, 1), come(3, 1), come(0, 0), come(0, -1), come(0, impl.MaxAmt+1), come(2, impl.MaxAmt+1),
		{Kind: impl.RkCome, Amt: 1, To: 1}, {Kind: impl.RkCome, Amt: 1, Other: 1}, {Kind: impl.RkCome, Amt: 1, M: rights(0, 1)}, went(2, 1), went(0, 0), give(2, 0, 1), give(0, 1, 1), give(0, 3, 1), give(0, -1, 1), give(0, 4, 1), give(0, 0, 0),
		move(2, 0, 1, 1), move(0, 2, 1, 1), move(0, 2, 0, 1), move(0, 0, 3, 1), move(0, -1, 0, 1), move(0, 1, 0, 0), move(2, 2, 3, 1),
		took(1, 1, rights(0, 1)), took(3, 1, rights(0, 1)), took(-1, 1, rights(0, 1)), took(0, 0, rights(0, 1)), took(0, 5, impl.Msg{}), took(0, 5, rights(0, 0)), took(0, 5, rights(2, 1)), took(0, 5, credit(2, 1, 0)), took(0, 5, credit(0, 1, 2)), took(0, 5, credit(0, 1, 3)), took(0, 5, bounce(2, 1)), took(0, 5, mark(2, 1)), took(0, 5, mark(0, 3)), took(0, 5, mark(0, 4)), took(0, 5, report(2, 1)), took(0, 9, mark(0, 3)), took(0, 9, credit(0, 1, 2)), took(0, 9, report(2, 1)),
		{Kind: impl.RkTook, Acct: 1, Amt: 5, M: rights(0, 1)}, heard(1, 0), heard(3, 0), heard(0, -1), prom(2, 1), prom(0, 0), vote(2, 0, 1), vote(0, 3, 1), vote(0, 0, 0), shut(2, 0), shut(0, 3), shut(0, 4), shut(-1, 0), {Kind: impl.RkShut, Amt: 1},
	} {
		applies(t, "the form", x, r, impl.Node{}, impl.ApForm)
	}
	for _, r := range []impl.Rec{move(0, 1, 1, 1), vote(0, 1, 1), shut(0, 1), took(0, 5, mark(0, 1)), took(0, 5, mark(0, 2)), took(0, 5, report(0, 3)), took(0, 5, rights(1, impl.MaxAmt)), took(0, 5, credit(1, 1, 1))} {
		if code := impl.Check(x, r); code == impl.ApForm {
			t.Errorf("Check(%v, %v) is ApForm", x, r)
		}
	}
}

// What other numbers of nodes and accounts allow is told apart from what a record allows.
func TestP10ApplyFormBySize(t *testing.T) {
	eachPlace(func(id int, n int, accts int) {
		x := changedNode(freshNode(id, n, accts), func(x *impl.Node) { x.Accts[accts-1].Have = 5 })
		for acct := -1; acct <= impl.MaxAccts; acct++ {
			for to := -1; to <= impl.MaxNodes; to++ {
				known, there := acct >= 0 && acct < accts, to >= 0 && to < n
				for _, c := range []struct {
					r    impl.Rec
					good bool
				}{
					{come(acct, 1), known}, {went(acct, 1), known}, {prom(acct, 1), known}, {vote(acct, to, 1), known && there}, {shut(acct, to), known && there}, {give(acct, to, 1), known && there && to != id}, {move(acct, 0, to, 1), known && there}, {move(accts-1, acct, to, 1), known && there},
					{heard(to, 0), there && to != id}, {took(to, 1, rights(acct, 1)), known && there && to != id}, {took(to, 1, credit(0, 1, acct)), known && there && to != id}, {took(to, 1, bounce(acct, 1)), known && there && to != id}, {took(to, 1, report(acct, 1)), known && there && to != id},
					{took((id+1)%n, 1, mark(acct, to)), known && there && n > 1},
				} {
					if code := impl.Check(x, c.r); c.good == (code == impl.ApForm) {
						t.Errorf("node %d of %d with %d accounts: the code of %v is %d", id, n, accts, c.r, code)
					}
					appliesAsModel(t, x, c.r)
				}
			}
		}
	})
}

// At a node that is not valid, every record has ApForm, and ApplyAll returns a copy of the node.
func TestP10ApplyAtNodesThatAreNotValid(t *testing.T) {
	for _, x := range badNodes() {
		for _, r := range append(sampleRecs(), impl.Rec{}, impl.Rec{Kind: 10}) {
			applies(t, "not a valid node", x, r, impl.Node{}, impl.ApForm)
		}
	}
	for _, f := range faults() {
		x := changedNode(busyNode(), f.change)
		if nodeModel(x) {
			continue
		}
		for _, r := range []impl.Rec{come(0, 1), went(0, 41), shut(0, 0), shut(1, 0), heard(0, 9), prom(1, 1), took(0, 9, rights(0, 1))} {
			applies(t, f.what, x, r, impl.Node{}, impl.ApForm)
		}
	}
}

func TestP10ApplyRecordsThatAreNotValid(t *testing.T) {
	for _, x := range []impl.Node{busyNode(), openNode(), sampleNode(), freshNode(0, 4, 3), freshNode(0, 1, 1)} {
		for _, r := range sampleRecs() {
			for _, more := range unusedFields(r) {
				applies(t, "an unused field", x, more, impl.Node{}, impl.ApForm)
			}
			for _, n := range oddInts {
				for _, part := range []string{"acct", "other", "to"} {
					odd := r
					*fieldOf(&odd, part) = n
					applies(t, "an odd number", x, odd, impl.Node{}, impl.ApForm)
				}
				odd := r
				odd.Kind = n
				applies(t, "an odd kind", x, odd, impl.Node{}, impl.ApForm)
				odd = r
				odd.Amt = n
				appliesAsModel(t, x, odd)
			}
		}
		for _, m := range badMsgs() {
			applies(t, "not a valid message", x, took(2, 8, m), impl.Node{}, impl.ApForm)
		}
	}
}

// fullTo returns a node in which the queue to one node has no room.
func fullTo(x impl.Node, to int) impl.Node {
	return changedNode(x, func(y *impl.Node) { y.Outs[to] = queued(100, impl.MaxBox) })
}

func TestP10ApplyFullSums(t *testing.T) {
	const most = impl.MaxNum
	rich := changedNode(openNode(), func(x *impl.Node) { x.Accts[0].Have = most - 5 })
	appliesEach(t, rich, []trial{
		{"a share of MaxNum", come(0, 5), impl.ApOk, func(x *impl.Node) { x.Accts[0].Have, x.Came = most, 105 }},
		{"a share above MaxNum comes", come(0, 6), impl.ApFull, nil},
		{"rights up to MaxNum", took(2, 8, rights(0, 5)), impl.ApOk, func(x *impl.Node) { x.Accts[0].Have, x.Ins[2] = most, 8 }},
		{"rights above MaxNum", took(2, 8, rights(0, 6)), impl.ApFull, nil},
		{"a credit up to MaxNum", took(2, 8, credit(0, 5, 1)), impl.ApOk, func(x *impl.Node) { x.Accts[0].Have, x.Ins[2] = most, 8 }},
		{"a credit above MaxNum", took(2, 8, credit(0, 6, 1)), impl.ApFull, nil},
		{"a bounce up to MaxNum", took(2, 8, bounce(0, 5)), impl.ApOk, func(x *impl.Node) { x.Accts[0].Have, x.Ins[2] = most, 8 }},
		{"a bounce above MaxNum", took(2, 8, bounce(0, 6)), impl.ApFull, nil},
		{"a bounce above MaxNum, not the next", took(2, 7, bounce(0, 6)), impl.ApStale, nil},
		{"a move up to MaxNum", move(1, 0, 1, 5), impl.ApOk, func(x *impl.Node) { x.Accts[0].Have, x.Accts[1].Have = most, 0 }},
		{"to the same account", move(0, 0, 1, impl.MaxAmt), impl.ApOk, still},
	})
	richer := changedNode(rich, func(x *impl.Node) { x.Accts[1].Have = 6 })
	appliesEach(t, richer, []trial{{"a move above MaxNum", move(1, 0, 1, 6), impl.ApFull, nil}, {"more than there is above MaxNum", move(1, 0, 1, 7), impl.ApFunds, nil}})
	sums := changedNode(busyNode(), func(x *impl.Node) { x.Came, x.Went, x.Stray = most-3, most-2, most-1 })
	appliesEach(t, sums, []trial{
		{"Came of MaxNum", come(0, 3), impl.ApOk, func(x *impl.Node) { x.Accts[0].Have, x.Came = 43, most }},
		{"Came above MaxNum", come(0, 4), impl.ApFull, nil},
		{"Came above MaxNum, at a closed account", come(1, 4), impl.ApShut, nil},
		{"Went of MaxNum", went(0, 2), impl.ApOk, func(x *impl.Node) { x.Accts[0].Have, x.Went = 38, most }},
		{"Went above MaxNum", went(0, 3), impl.ApFull, nil},
		{"Went above MaxNum, without the funds", went(0, 41), impl.ApFunds, nil},
		{"Stray of MaxNum", took(2, 8, bounce(1, 1)), impl.ApOk, func(x *impl.Node) { x.Stray, x.Ins[2] = most, 8 }},
		{"Stray above MaxNum", took(2, 8, bounce(1, 2)), impl.ApFull, nil},
		{"Stray above MaxNum, not the next", took(2, 9, bounce(1, 2)), impl.ApStale, nil},
	})
}

func TestP10ApplyFullQueues(t *testing.T) {
	for to := range 3 {
		if to == 1 {
			continue
		}
		x, closed := fullTo(openNode(), to), fullTo(busyNode(), to)
		next := x.Ins[to] + 1
		appliesEach(t, x, []trial{
			{"rights", give(0, to, 1), impl.ApFull, nil},
			{"rights without the funds", give(0, to, 41), impl.ApFunds, nil},
			{"a credit", move(0, 1, to, 1), impl.ApFull, nil},
			{"a credit without the funds", move(0, 1, to, 41), impl.ApFunds, nil},
			{"a mark", shut(0, 0), impl.ApFull, nil},
			{"a mark behind a mark", took(to, next, mark(0, 0)), impl.ApFull, nil},
			{"a mark behind a mark of the other node", took(2-to, x.Ins[2-to]+1, mark(0, 0)), impl.ApFull, nil},
			{"a mark behind a mark that is not the next", took(to, next+1, mark(0, 0)), impl.ApStale, nil},
			{"a move here", move(0, 1, 1, 1), impl.ApOk, func(x *impl.Node) { x.Accts[0].Have, x.Accts[1].Have = 39, 6 }},
			{"a credit that is accepted", took(to, next, credit(0, 1, 0)), impl.ApOk, func(x *impl.Node) { x.Accts[0].Have, x.Ins[to] = 41, next }},
		})
		appliesEach(t, closed, []trial{
			{"a bounce", took(to, next, credit(1, 1, 0)), impl.ApFull, nil},
			{"a bounce that is not due", took(to, next-1, credit(1, 1, 0)), impl.ApStale, nil},
			{"a report", took(2, 8, mark(1, 2)), impl.ApFull, nil},
			{"no report", took(0, 5, mark(1, 2)), impl.ApStale, nil},
			{"of a closed account", give(1, to, 1), impl.ApShut, nil},
			{"a closed account", shut(1, 0), impl.ApStale, nil},
			{"a bounce to the other node", took(2-to, closed.Ins[2-to]+1, credit(1, 1, 0)), impl.ApOk, func(x *impl.Node) {
				x.Ins[2-to]++
				appended(x, 2-to, bounce(0, 1))
			}},
		})
	}
}

// A queue takes as many messages as it has room for, and none behind the last number.
func TestP10ApplyFullAtTheEdge(t *testing.T) {
	x := changedNode(freshNode(0, 2, 1), func(x *impl.Node) { x.Accts[0].Have, x.Outs[1] = 9, queued(100, impl.MaxBox-1) })
	appliesEach(t, x, []trial{
		{"the last message", give(0, 1, 9), impl.ApOk, func(x *impl.Node) { x.Accts[0].Have = 0; appended(x, 1, rights(0, 9)) }},
		{"only room for a mark", shut(0, 1), impl.ApOk, func(x *impl.Node) { x.Accts[0] = acctOf(9, 1, 1, nil); appended(x, 1, mark(0, 1)) }},
		{"no room for a mark and a report", took(1, 1, mark(0, 1)), impl.ApFull, nil},
	})
	room := changedNode(x, func(x *impl.Node) { x.Outs[1] = queued(100, impl.MaxBox-2) })
	appliesEach(t, room, []trial{{"room for a mark and a report", took(1, 1, mark(0, 1)), impl.ApOk, func(x *impl.Node) {
		x.Accts[0], x.Ins[1] = acctOf(9, 1, 1, []int{1}, rep(0, 9)), 1
		appended(x, 1, mark(0, 1), report(0, 9))
	}}})
	for _, count := range []int{0, 3} {
		last := changedNode(x, func(x *impl.Node) { x.Outs[1] = queued(impl.MaxNum-1, count) })
		appliesEach(t, last, []trial{
			{"the last number", give(0, 1, 9), impl.ApOk, func(x *impl.Node) { x.Accts[0].Have = 0; appended(x, 1, rights(0, 9)) }},
			{"no number for a report", took(1, 1, mark(0, 1)), impl.ApFull, nil},
		})
		over := changedNode(x, func(x *impl.Node) { x.Outs[1] = queued(impl.MaxNum, count) })
		appliesEach(t, over, []trial{{"no number", give(0, 1, 9), impl.ApFull, nil}, {"no number for a mark", shut(0, 1), impl.ApFull, nil}, {"all numbers", heard(1, impl.MaxNum-1), impl.ApOk, func(x *impl.Node) { x.Outs[1].List = nil }}})
	}
}

func amtsNear(n int) []int { return []int{1, n - 1, n, n + 1, impl.MaxAmt} }

// workFor holds records that come from outside: for every account and node of x, and for one more of each.
func workFor(x impl.Node) []impl.Rec {
	l := []impl.Rec{}
	for acct := range len(x.Accts) + 1 {
		have, promised := 0, 0
		if acct < len(x.Accts) {
			have, promised = x.Accts[acct].Have, x.Accs[acct].Prom
		}
		for _, amt := range amtsNear(have) {
			l = append(l, come(acct, amt), went(acct, amt))
			for to := range x.N + 1 {
				l = append(l, give(acct, to, amt), move(acct, amt%3, to, amt), move(acct, (amt+1)%3, to, amt), move(acct, (amt+2)%3, to, amt))
			}
		}
		for to := range x.N + 1 {
			l = append(l, shut(acct, to))
			for _, ballot := range amtsNear(promised) {
				l = append(l, prom(acct, ballot), vote(acct, to, ballot))
			}
		}
	}
	return l
}

// mailFor holds the messages that a node of this size may get, and some that name what it has not.
func mailFor(x impl.Node) []impl.Msg {
	l := []impl.Msg{}
	for acct := range len(x.Accts) + 1 {
		for _, amt := range []int{1, 9, impl.MaxAmt} {
			l = append(l, rights(acct, amt), credit(acct, amt, 0), credit(acct, amt, len(x.Accts)-1), credit(acct, amt, len(x.Accts)), bounce(acct, amt), report(acct, amt))
		}
		for by := range x.N + 1 {
			l = append(l, mark(acct, by))
		}
		l = append(l, report(acct, 0), report(acct, impl.MaxNum))
	}
	return l
}

// postFor holds records that other nodes cause.
func postFor(x impl.Node) []impl.Rec {
	l := []impl.Rec{}
	for from := range x.N {
		o, last := x.Outs[from], x.Ins[from]
		for _, seq := range []int{0, 1, o.Next - len(o.List) - 1, o.Next - len(o.List), o.Next - 2, o.Next - 1, o.Next, o.Next + 1, impl.MaxNum} {
			l = append(l, heard(from, seq))
		}
		for i, m := range mailFor(x) {
			l = append(l, took(from, last+1, m), took(from, last+i%5-1, m))
		}
	}
	return l
}

func recsFor(x impl.Node) []impl.Rec { return slices.Concat(workFor(x), postFor(x)) }

// richNode has an open account that can pay MaxAmt, and one that is full.
func richNode() impl.Node {
	return changedNode(openNode(), func(x *impl.Node) { x.Accts[0].Have, x.Accts[1].Have = impl.MaxAmt, impl.MaxNum })
}

// nodesToChange holds nodes at which all kinds of records succeed and fail, in every way.
func nodesToChange() []impl.Node {
	l := []impl.Node{busyNode(), openNode(), sampleNode(), richNode(), fullTo(openNode(), 0), fullTo(busyNode(), 2), fullTo(fullTo(busyNode(), 0), 2), freshNode(0, 1, 1), freshNode(3, 4, 3)}
	for i, x := range goodNodes() {
		if i%4 == 1 {
			l = append(l, x)
		}
	}
	return l
}

func TestP10ApplyAsModel(t *testing.T) {
	seen := map[[2]int]int{}
	for _, x := range nodesToChange() {
		for _, r := range recsFor(x) {
			seen[[2]int{r.Kind, appliesAsModel(t, x, r)}]++
		}
	}
	for kind, codes := range map[int][]int{1: {0, 1, 3, 4}, 2: {0, 1, 2, 3, 4}, 3: {0, 1, 2, 3, 4}, 4: {0, 1, 2, 3, 4}, 5: {0, 1, 4, 5}, 6: {0, 1, 5}, 7: {0, 1, 5}, 8: {0, 1, 5}, 9: {0, 1, 4, 5}} {
		for code := range 7 {
			if slices.Contains(codes, code) != (seen[[2]int{kind, code}] > 0) {
				t.Errorf("records of kind %d have the code %d %d times", kind, code, seen[[2]int{kind, code}])
			}
		}
	}
}

// Every record that concerns an account, in every state of the account at every node.
func TestP10ApplyInEveryStateOfAnAccount(t *testing.T) {
	done := 0
	for k, p := range goodAccts() {
		x := freshNode(p.id, p.n, 2)
		acct := k % 2
		x.Accts[acct], x.Accts[1-acct].Have = cloneAcct(p.a), 20
		l := []impl.Rec{come(acct, 3), went(acct, 7), went(acct, 8), move(1-acct, acct, p.id, 20), move(acct, 1-acct, p.id, 7), shut(acct, p.n-1)}
		for from := range p.n {
			l = append(l, give(acct, from, 7), move(1-acct, acct, from, 20))
			for _, m := range []impl.Msg{rights(acct, 1), credit(acct, 5, 1-acct), credit(acct, 5, acct), bounce(acct, 4), mark(acct, p.n-1), report(acct, 0), report(acct, 31), rights(1-acct, 1), credit(1-acct, 1, acct)} {
				l = append(l, took(from, 1, m), took(from, 2, m))
			}
		}
		for _, r := range l {
			if appliesAsModel(t, x, r) == impl.ApOk {
				done++
			}
		}
	}
	if done < 5000 {
		t.Errorf("only %d records were applied", done)
	}
}

// applyAllModel applies records by the model, up to the first one that it rejects.
func applyAllModel(x impl.Node, l []impl.Rec) (impl.Node, int) {
	for i, r := range l {
		next, code := applyModel(x, r)
		if code != 0 {
			return x, i
		}
		x = next
	}
	return x, len(l)
}

func appliesAll(t *testing.T, what string, x impl.Node, l []impl.Rec, want impl.Node, stop int) {
	t.Helper()
	if got, k := impl.ApplyAll(x, l); k != stop || !equalNodes(got, want) {
		t.Fatalf("%s: ApplyAll(%v, %v) = %v, %d, want %v, %d", what, x, l, got, k, want, stop)
	}
}

func TestP10ApplyAllExamples(t *testing.T) {
	x := openNode()
	has := func(first int, second int, came int) impl.Node {
		return changedNode(x, func(y *impl.Node) { y.Accts[0].Have, y.Accts[1].Have, y.Came = first, second, came })
	}
	for _, c := range []struct {
		what string
		l    []impl.Rec
		want impl.Node
		stop int
	}{
		{"nil", nil, x, 0}, {"an empty list", []impl.Rec{}, x, 0}, {"one", []impl.Rec{come(0, 2)}, has(42, 5, 102), 1}, {"one that is rejected", []impl.Rec{went(0, 41)}, x, 0},
		{"none is rejected", []impl.Rec{come(0, 2), move(0, 1, 1, 42), come(1, 3)}, has(0, 50, 105), 3},
		{"the first is rejected", []impl.Rec{went(0, 41), come(0, 2), come(1, 3)}, x, 0},
		{"a middle one is rejected", []impl.Rec{come(0, 2), went(0, 43), come(1, 3)}, has(42, 5, 102), 1},
		{"the last is rejected", []impl.Rec{come(0, 2), come(1, 3), went(0, 43)}, has(42, 8, 105), 2},
		{"one depends on the one before", []impl.Rec{move(1, 0, 1, 5), move(0, 1, 1, 45)}, has(0, 45, 100), 2},
		{"one needs more than the one before left", []impl.Rec{move(1, 0, 1, 5), move(0, 1, 1, 46), come(0, 1)}, has(45, 0, 100), 1},
		{"the same twice", []impl.Rec{prom(0, 1), prom(0, 1)}, changedNode(x, func(y *impl.Node) { y.Accs[0].Prom = 1 }), 1},
		{"one that is not valid", []impl.Rec{come(0, 2), {}, come(0, 2)}, has(42, 5, 102), 1},
		{"all are rejected", []impl.Rec{{}, {}, went(0, 41)}, x, 0},
	} {
		appliesAll(t, c.what, x, c.l, c.want, c.stop)
	}
	for _, bad := range append(badNodes(), impl.Node{}) {
		appliesAll(t, "nil, at a node that is not valid", bad, nil, bad, 0)
		appliesAll(t, "an empty list, at a node that is not valid", bad, []impl.Rec{}, bad, 0)
		appliesAll(t, "at a node that is not valid", bad, sampleRecs(), bad, 0)
	}
}

// Lists of records of which one, at every place, is rejected, or none.
func TestP10ApplyAllStops(t *testing.T) {
	good := []impl.Rec{come(0, 2), give(0, 2, 42), come(1, 3), took(2, 8, rights(0, 9)), took(2, 9, mark(1, 0)), took(0, 5, credit(1, 4, 0)), prom(0, 3), vote(0, 2, 3), heard(0, 7), took(0, 6, mark(1, 0)), shut(0, 1)}
	x := openNode()
	want, k := applyAllModel(x, good)
	if k != len(good) {
		t.Fatalf("the model rejects %v", good[k])
	}
	appliesAll(t, "none is rejected", x, good, want, k)
	for place := range len(good) + 1 {
		before, _ := applyAllModel(x, good[:place])
		for _, r := range []impl.Rec{{}, come(2, 1), went(0, impl.MaxAmt), took(2, 1, rights(0, 1)), prom(1, 9), heard(2, impl.MaxNum)} {
			appliesAll(t, "one is rejected", x, slices.Insert(slices.Clone(good), place, r), before, place)
			appliesAll(t, "one and all behind it are rejected", x, append(slices.Clone(good[:place]), r, r), before, place)
		}
	}
}

func TestP10ApplyAllAsModel(t *testing.T) {
	r := rand.New(rand.NewSource(12))
	whole := 0
	for _, x := range nodesToChange() {
		recs := recsFor(x)
		for range 40 {
			l := []impl.Rec{}
			now := x
			for range r.Intn(40) {
				rec := recs[r.Intn(len(recs))]
				next, code := applyModel(now, rec)
				// Most of the records that would end the run are left out.
				if code == 0 {
					now = next
				}
				if code == 0 || r.Intn(20) == 0 {
					l = append(l, rec)
				}
			}
			want, stop := applyAllModel(x, l)
			appliesAll(t, "a run", x, l, want, stop)
			if stop == len(l) && stop > 2 {
				whole++
			}
		}
	}
	if whole < 100 {
		t.Errorf("only %d runs were applied as a whole", whole)
	}
}

// partsApart checks that no two lists of nodes share memory, at any depth.
func partsApart(t *testing.T, what string, nodes ...impl.Node) {
	t.Helper()
	accts, outs, ints, accs := listsOf(nodes)
	reps, lists := [][]impl.Rep{}, [][]impl.Msg{}
	for _, x := range nodes {
		for _, a := range x.Accts {
			reps = append(reps, a.Reps)
		}
		for _, o := range x.Outs {
			lists = append(lists, o.List)
		}
	}
	allApart(t, what+": Accts", accts)
	allApart(t, what+": Outs", outs)
	allApart(t, what+": Ins and Marks", ints)
	allApart(t, what+": Accs", accs)
	allApart(t, what+": Reps", reps)
	allApart(t, what+": the messages", lists)
}

// overwrite changes all of a result, with the spare capacity behind it.
func overwrite(x impl.Node) {
	for _, a := range x.Accts {
		scribble(a.Marks, 99)
		scribble(a.Reps, rep(99, 99))
	}
	for _, o := range x.Outs {
		scribble(o.List, impl.Msg{Kind: 99, Acct: 99})
	}
	scribble(x.Accts, acctOf(99, 9, 9, []int{9}))
	scribble(x.Outs, queued(99, 9))
	scribble(x.Ins, 99)
	scribble(x.Accs, accOf(99, 9, 9))
}

func isNewNode(t *testing.T, what string, got impl.Node, w watchedNode) {
	t.Helper()
	partsApart(t, what, got, w.x)
	overwrite(got)
	w.unchanged(t, what)
}

// The argument and the memory behind its lists stay as they were, also when the result is overwritten, and what lies behind the lists is not looked at.
func TestP10ApplyArgumentsStay(t *testing.T) {
	applied := map[int]int{}
	for i, x := range nodesToChange() {
		for k, r := range recsFor(x) {
			want, code := applyModel(x, r)
			if code != 0 && (i+k)%7 != 0 || i > 20 && (i+k)%5 != 0 {
				continue
			}
			w := watchNode(x)
			got, c := impl.Apply(w.x, r)
			if c != code || !equalNodes(got, want) {
				t.Fatalf("the memory behind the lists of %v makes a difference to %v", x, r)
			}
			isNewNode(t, "Apply", got, w)
			if impl.Check(w.x, r) != code {
				t.Fatalf("the memory behind the lists of %v makes a difference to Check of %v", x, r)
			}
			w.unchanged(t, "Check")
			applied[r.Kind]++
		}
	}
	for kind := 1; kind <= 9; kind++ {
		if applied[kind] < 20 {
			t.Errorf("only %d records of kind %d were applied", applied[kind], kind)
		}
	}
}

func TestP10ApplyAllArgumentsStay(t *testing.T) {
	recs := []impl.Rec{come(0, 2), give(0, 2, 5), took(2, 8, rights(0, 9)), took(2, 9, mark(0, 0)), took(0, 5, mark(0, 0)), prom(0, 3)}
	for _, x := range append(nodesToChange(), badNodes()...) {
		for count := range len(recs) + 1 {
			for _, l := range [][]impl.Rec{recs[:count], append(slices.Clone(recs[:count]), impl.Rec{}, come(0, 1))} {
				want, stop := applyAllModel(x, l)
				w, g := watchNode(x), guard(l, come(0, 1))
				got, k := impl.ApplyAll(w.x, g.arg)
				if k != stop || !equalNodes(got, want) {
					t.Fatalf("the memory behind the lists of %v or behind %v makes a difference", x, l)
				}
				isNewNode(t, "ApplyAll", got, w)
				g.unchanged(t, "ApplyAll")
			}
		}
	}
}

// Two results of the same call have nothing in common either, and a result can be the argument of further calls.
func TestP10ApplyResultsAreApart(t *testing.T) {
	for _, x := range nodesToChange() {
		for k, r := range recsFor(x) {
			if k%17 != 0 {
				continue
			}
			first, code := impl.Apply(x, r)
			if code != impl.ApOk {
				continue
			}
			second, _ := impl.Apply(x, r)
			third, _ := impl.Apply(first, prom(0, impl.MaxNum))
			fourth, _ := impl.ApplyAll(first, nil)
			partsApart(t, "results", first, second, third, fourth)
		}
	}
}

// Nil and empty lists make no difference, at any depth.
func TestP10ApplyWithNilAndEmptyLists(t *testing.T) {
	for i, x := range nodesToChange() {
		none, empty := emptied(x, true), emptied(x, false)
		for k, r := range recsFor(x) {
			if (i+k)%11 == 0 {
				want, code := applyModel(x, r)
				applies(t, "nil lists", none, r, want, code)
				applies(t, "empty lists", empty, r, want, code)
			}
		}
	}
}

// moneyOf returns what a node has, and what is in its queues.
func moneyOf(x impl.Node) (int, int) {
	has, way := x.Stray, 0
	for _, a := range x.Accts {
		has += a.Have
	}
	for _, o := range x.Outs {
		for _, m := range o.List {
			if m.Kind <= impl.MgBounce {
				way += m.Amt
			}
		}
	}
	return has, way
}

// stated returns by how much a record changes what a node has or sends, and its books.
func stated(r impl.Rec) (money int, came int, gone int) {
	switch {
	case r.Kind == impl.RkCome:
		return r.Amt, r.Amt, 0
	case r.Kind == impl.RkWent:
		return -r.Amt, 0, r.Amt
	case r.Kind == impl.RkTook && r.M.Kind <= impl.MgBounce:
		return r.M.Amt, 0, 0
	}
	return 0, 0, 0
}

// A record creates and destroys no money except as it states, and what is rejected leaves nothing.
func TestP1RecordsKeepTheMoney(t *testing.T) {
	changed := map[int]int{}
	for _, x := range nodesToChange() {
		has, way := moneyOf(x)
		for _, r := range recsFor(x) {
			y, code := impl.Apply(x, r)
			if code != impl.ApOk {
				isNode(t, "a rejected record", y, true, impl.Node{}, true)
				continue
			}
			hasThen, wayThen := moneyOf(y)
			money, came, gone := stated(r)
			if r.Kind == impl.RkHeard {
				// What was heard is not in transit any more, but at the other node.
				money = wayThen - way
			}
			if hasThen+wayThen != has+way+money || y.Came != x.Came+came || y.Went != x.Went+gone || hasThen != impl.NodeWorth(y) {
				t.Fatalf("%v makes %v of %v", r, y, x)
			}
			if hasThen != has || wayThen != way {
				changed[r.Kind]++
			}
		}
	}
	for _, kind := range []int{impl.RkCome, impl.RkWent, impl.RkGive, impl.RkMove, impl.RkTook, impl.RkHeard} {
		if changed[kind] < 20 {
			t.Errorf("only %d records of kind %d changed anything", changed[kind], kind)
		}
	}
	for _, kind := range []int{impl.RkProm, impl.RkVote, impl.RkShut} {
		if changed[kind] > 0 {
			t.Errorf("records of kind %d changed money", kind)
		}
	}
}

// A node spends what it has, down to nothing, without asking any other one, and never more.
func TestP1NodeSpendsWhatItHas(t *testing.T) {
	for have := range 12 {
		x := changedNode(freshNode(1, 3, 2), func(x *impl.Node) { x.Accts[0].Have, x.Accts[1].Have = have, 1000 })
		for amt := 1; amt < 15; amt++ {
			for _, r := range []impl.Rec{went(0, amt), give(0, 0, amt), give(0, 2, amt), move(0, 1, 1, amt), move(0, 1, 2, amt), move(0, 0, 0, amt)} {
				y, code := impl.Apply(x, r)
				if amt > have && code != impl.ApFunds || amt <= have && (code != impl.ApOk || impl.NodeHas(y, 0) != have-amt) {
					t.Errorf("with %d, %v has the code %d and leaves %d", have, r, code, impl.NodeHas(y, 0))
				}
			}
		}
	}
}

// ledger is a run of nodes that change by records alone. Messages are repeated, reordered and lost on their way: any of those that wait may arrive at any time.
type ledger struct {
	nodes []impl.Node
	by    map[int]int
	seen  map[[2]int]int
}

func newLedger(n int, accts int) *ledger {
	g := &ledger{by: map[int]int{}, seen: map[[2]int]int{}}
	for id := range n {
		g.nodes = append(g.nodes, freshNode(id, n, accts))
	}
	return g
}

func (g *ledger) apply(t *testing.T, i int, r impl.Rec) int {
	t.Helper()
	y, code := impl.Apply(g.nodes[i], r)
	if code == impl.ApForm {
		t.Fatalf("%v refuses the form of %v", g.nodes[i], r)
	}
	if code == impl.ApOk {
		g.nodes[i] = y
	}
	g.seen[[2]int{r.Kind, code}]++
	return code
}

// spend lets a node pay, and checks that it can if and only if it has enough and the account is open.
func (g *ledger) spend(t *testing.T, i int, r impl.Rec) {
	t.Helper()
	a := g.nodes[i].Accts[r.Acct]
	code := g.apply(t, i, r)
	isOpen := a.State == impl.AsOpen
	// Of a move, the other account may be closed as well.
	if !isOpen && code != impl.ApShut || isOpen && code == impl.ApShut && r.Kind != impl.RkMove {
		t.Fatalf("an account in state %d has the code %d for %v", a.State, code, r)
	}
	if isOpen && (a.Have < r.Amt) != (code == impl.ApFunds) {
		t.Fatalf("an account with %d has the code %d for %v", a.Have, code, r)
	}
}

func (g *ledger) work(t *testing.T, r *rand.Rand) {
	t.Helper()
	i, to := r.Intn(len(g.nodes)), r.Intn(len(g.nodes))
	accts := len(g.nodes[0].Accts)
	acct, amt := r.Intn(accts), 1+r.Intn(60)
	switch k := r.Intn(5); {
	case k < 2:
		g.apply(t, i, come(acct, amt))
	case k == 2:
		g.spend(t, i, went(acct, amt))
	case k == 3 && i != to:
		g.spend(t, i, give(acct, to, amt))
	default:
		g.spend(t, i, move(acct, r.Intn(accts), to, amt))
	}
}

// deliver lets a message arrive. It is accepted only if it is the next one.
func (g *ledger) deliver(t *testing.T, i int, j int, seq int) {
	t.Helper()
	m, there := impl.OutAt(g.nodes[i].Outs[j], seq)
	if !there {
		return
	}
	next := g.nodes[j].Ins[i]+1 == seq
	code := g.apply(t, j, took(i, seq, m))
	if next == (code == impl.ApStale) || code != impl.ApOk && code != impl.ApStale && code != impl.ApFull {
		t.Fatalf("%v has the code %d for message %d of %v", g.nodes[j], code, seq, g.nodes[i])
	}
}

func (g *ledger) acknowledge(t *testing.T, i int, j int, seq int) {
	t.Helper()
	if i != j && g.apply(t, i, heard(j, seq)) != impl.ApOk {
		t.Fatalf("%v does not hear %d of %d", g.nodes[i], seq, j)
	}
}

// close closes an account at a node, always on behalf of the same one, as the nodes have agreed.
func (g *ledger) close(t *testing.T, i int, acct int) {
	t.Helper()
	if _, ok := g.by[acct]; !ok {
		g.by[acct] = i
	}
	g.apply(t, i, shut(acct, g.by[acct]))
}

func (g *ledger) act(t *testing.T, r *rand.Rand, closings int) {
	t.Helper()
	i, j := r.Intn(len(g.nodes)), r.Intn(len(g.nodes))
	acct := r.Intn(len(g.nodes[0].Accts))
	switch k := r.Intn(400); {
	case k < closings:
		g.close(t, i, acct)
	case k < 20:
		g.apply(t, i, prom(acct, 1+r.Intn(50)))
	case k < 40:
		g.apply(t, i, vote(acct, j, 1+r.Intn(50)))
	case k < 160:
		g.work(t, r)
	case k < 320:
		g.deliver(t, i, j, impl.OutFirst(g.nodes[i].Outs[j])+r.Intn(4))
	default:
		g.acknowledge(t, i, j, max(0, g.nodes[j].Ins[i]-r.Intn(3)))
	}
}

// check compares what the nodes hold, and what is in transit, with what came in and went out.
func (g *ledger) check(t *testing.T) {
	t.Helper()
	here, way, books := 0, 0, 0
	for i, x := range g.nodes {
		if !nodeModel(x) {
			t.Fatalf("%v is not valid", x)
		}
		for j, o := range x.Outs {
			way += impl.OutWorth(o, g.nodes[j].Ins[i])
		}
		has, _ := moneyOf(x)
		here += has
		books += x.Came - x.Went
	}
	if here+way != books {
		t.Fatalf("the nodes hold %d, %d is in transit, and %d came in and did not go out", here, way, books)
	}
	g.agree(t)
}

// agree checks that no two nodes know different sums of a closed account.
func (g *ledger) agree(t *testing.T) {
	t.Helper()
	for acct := range g.nodes[0].Accts {
		sums := []int{}
		for _, x := range g.nodes {
			if sum, ok := impl.FinalOf(x.Accts[acct]); ok {
				sums = append(sums, sum)
			}
		}
		if len(slices.Compact(sums)) > 1 {
			t.Fatalf("account %d has the final sums %v", acct, sums)
		}
	}
}

// finish lets everything arrive.
func (g *ledger) finish(t *testing.T) {
	t.Helper()
	for range 12 {
		for i := range g.nodes {
			for j, o := range g.nodes[i].Outs {
				for seq := impl.OutFirst(o); seq < o.Next; seq++ {
					g.deliver(t, i, j, seq)
				}
				g.acknowledge(t, i, j, g.nodes[j].Ins[i])
			}
		}
		g.check(t)
	}
	for _, x := range g.nodes {
		if impl.Waiting(x) > 0 {
			t.Fatalf("messages wait at the end: %v", x)
		}
	}
}

// shares adds up what the nodes hold of an account.
func (g *ledger) shares(acct int) int {
	sum := 0
	for _, x := range g.nodes {
		sum += x.Accts[acct].Have
	}
	return sum
}

// closedEverywhere checks that every node knows the same final sum of an account, which is all that is left of it.
func (g *ledger) closedEverywhere(t *testing.T, acct int) {
	t.Helper()
	for _, x := range g.nodes {
		sum, done := impl.FinalOf(x.Accts[acct])
		if !done || sum != g.shares(acct) || x.Accts[acct].By != g.by[acct] {
			t.Fatalf("%v knows the sum %d, %v of account %d, want %d", x, sum, done, acct, g.shares(acct))
		}
	}
}

// At any time, what the nodes hold and what is in transit is what came in and did not go out.
func TestP1LedgerHoldsWhatCameIn(t *testing.T) {
	seen, money := map[[2]int]int{}, 0
	for seed := range 80 {
		r := rand.New(rand.NewSource(int64(seed)))
		g := newLedger(1+seed%impl.MaxNodes, 1+seed/4%impl.MaxAccts)
		for range 500 {
			g.act(t, r, seed%3)
			g.check(t)
		}
		g.finish(t)
		for k, count := range g.seen {
			seen[k] += count
		}
		money += g.shares(0)
	}
	for kind := 1; kind <= 9; kind++ {
		if seen[[2]int{kind, impl.ApOk}] < 20 {
			t.Errorf("only %d records of kind %d were applied", seen[[2]int{kind, impl.ApOk}], kind)
		}
	}
	for _, k := range [][2]int{{2, 2}, {3, 2}, {4, 2}, {1, 3}, {2, 3}, {3, 3}, {4, 3}, {5, 5}, {7, 5}, {8, 5}, {9, 5}} {
		if seen[k] < 20 {
			t.Errorf("only %d records of kind %d had the code %d", seen[k], k[0], k[1])
		}
	}
	if money < 10000 {
		t.Errorf("only %d is there at the end", money)
	}
}

func isShut(t *testing.T, x impl.Node, l ...impl.Rec) {
	t.Helper()
	for _, r := range l {
		applies(t, "a closed account", x, r, impl.Node{}, impl.ApShut)
	}
}

// An account that is closed at any node, at any time, is closed everywhere with one sum, which is all that the nodes hold of it.
func TestP4LedgerClosesEverywhere(t *testing.T) {
	strayed, accepted, sums := 0, 0, 0
	for seed := range 80 {
		r := rand.New(rand.NewSource(int64(1000 + seed)))
		g := newLedger(1+seed%impl.MaxNodes, 1+seed/4%impl.MaxAccts)
		for step := range 400 {
			g.act(t, r, step/100)
			g.check(t)
		}
		for acct := range g.nodes[0].Accts {
			g.close(t, r.Intn(len(g.nodes)), acct)
			for range 30 {
				g.act(t, r, 0)
				g.check(t)
			}
		}
		g.finish(t)
		for acct := range g.nodes[0].Accts {
			g.closedEverywhere(t, acct)
			sums += g.shares(acct)
		}
		for _, x := range g.nodes {
			strayed += x.Stray
			for i := range x.Accts {
				isShut(t, x, come(i, 1), went(i, 1), move(i, i, x.Id, 1))
				if x.N > 1 {
					isShut(t, x, give(i, (x.Id+1)%x.N, 1))
				}
			}
		}
		accepted += g.seen[[2]int{impl.RkTook, impl.ApOk}]
	}
	if strayed < 50 || accepted < 1000 || sums < 10000 {
		t.Errorf("only %d strayed, %d messages were accepted, and %d was counted", strayed, accepted, sums)
	}
}

// closings visits every order in which messages can arrive while account 0 is closed on behalf of one node, by some nodes at any time, unless they have heard of it before.
type closings struct {
	by   int
	seen map[string]bool
	ends int
}

func (c *closings) ledger(nodes []impl.Node) *ledger {
	return &ledger{nodes: slices.Clone(nodes), by: map[int]int{0: c.by}, seen: map[[2]int]int{}}
}

// visit tries everything that can happen next; closers are the nodes that have not tried to close the account.
func (c *closings) visit(t *testing.T, nodes []impl.Node, closers []int, atEnd func(g *ledger)) {
	t.Helper()
	key := fmt.Sprint(nodes, closers)
	if c.seen[key] {
		return
	}
	c.seen[key] = true
	now := c.ledger(nodes)
	now.check(t)
	moved := false
	for k, i := range closers {
		next := c.ledger(nodes)
		next.close(t, i, 0)
		c.visit(t, next.nodes, slices.Delete(slices.Clone(closers), k, k+1), atEnd)
		moved = true
	}
	for i, x := range nodes {
		for j, o := range x.Outs {
			seq := nodes[j].Ins[i] + 1
			if seq == o.Next {
				continue
			}
			next := c.ledger(nodes)
			next.deliver(t, i, j, seq)
			c.visit(t, next.nodes, closers, atEnd)
			moved = true
		}
	}
	if !moved {
		c.ends++
		atEnd(now)
	}
}

// start returns nodes that have shares of two accounts, and have sent some of them to each other.
func start(t *testing.T, n int) []impl.Node {
	t.Helper()
	g := newLedger(n, 2)
	for i := range n {
		g.apply(t, i, come(0, 100+10*i))
		g.apply(t, i, come(1, 1000))
	}
	if n > 1 {
		g.apply(t, 0, give(0, 1, 7))
		g.apply(t, 1, move(1, 0, 0, 5))
	}
	return g.nodes
}

// In whatever order the messages of a closing arrive, every node ends with one sum. What was in transit to the account is in it, and a credit that came too late is back where it was taken.
func TestP4EveryOrderOfAClosing(t *testing.T) {
	for _, c := range []struct {
		n, by   int
		closers []int
		orders  int
	}{
		{1, 0, []int{0}, 1}, {2, 0, []int{0}, 10}, {2, 1, []int{0}, 10}, {2, 1, []int{0, 1}, 50}, {3, 2, []int{0}, 500}, {3, 0, []int{1, 0}, 500},
	} {
		all, sums := &closings{by: c.by, seen: map[string]bool{}}, map[int]int{}
		all.visit(t, start(t, c.n), c.closers, func(g *ledger) {
			g.closedEverywhere(t, 0)
			whole := g.shares(0) + g.shares(1)
			if whole != 1000*c.n+100*c.n+10*c.n*(c.n-1)/2 || g.shares(1)%5 != 0 {
				t.Fatalf("the nodes hold %d, %d of them in the open account", whole, g.shares(1))
			}
			sums[g.shares(1)]++
		})
		if len(all.seen) < c.orders || c.n > 1 && (sums[1000*c.n] == 0 || sums[1000*c.n-5] == 0 || len(sums) != 2) {
			t.Errorf("%d nodes, closed by %v: %d states, %d ends, and the open account has %v", c.n, c.closers, len(all.seen), all.ends, sums)
		}
	}
}

// A closed account accepts and pays nothing, except what was in transit, and its share stays as it was reported.
func TestP4ClosedAccountStays(t *testing.T) {
	tried := 0
	for _, p := range goodAccts() {
		if p.a.State == impl.AsOpen {
			continue
		}
		x := freshNode(p.id, p.n, 2)
		x.Accts[0], x.Accts[1].Have = cloneAcct(p.a), 20
		for _, r := range recsFor(x) {
			y, code := impl.Apply(x, r)
			inTransit := r.Kind == impl.RkTook && r.M == rights(0, r.M.Amt) && code == impl.ApOk
			pays := r.Kind <= impl.RkMove && r.Acct == 0 || r.Kind == impl.RkMove && r.Other == 0 && r.To == p.id
			if pays && code == impl.ApOk || inTransit && slices.Contains(reportersOf(p.a.Reps), p.id) {
				t.Fatalf("%v has the code %d at %v", r, code, x)
			}
			if code == impl.ApOk && !inTransit && y.Accts[0].Have != p.a.Have {
				t.Fatalf("%v changes the share of the closed account of %v", r, x)
			}
			if code == impl.ApOk && (y.Accts[0].State == impl.AsOpen || y.Accts[0].By != p.a.By) {
				t.Fatalf("%v opens the closed account of %v", r, x)
			}
			tried++
		}
	}
	if tried < 10000 {
		t.Errorf("only %d records were tried", tried)
	}
}

// A credit to a closed account goes back to the account that paid it, and if that is closed as well, the amount is kept beside all accounts.
func TestP4CreditsAreReturned(t *testing.T) {
	for _, amt := range []int{1, 60, 100} {
		for _, payerClosed := range []bool{false, true} {
			g := newLedger(2, 2)
			g.apply(t, 0, come(1, 100))
			g.close(t, 1, 0)
			g.spend(t, 0, move(1, 0, 1, amt))
			if payerClosed {
				g.close(t, 0, 1)
			}
			g.finish(t)
			has, stray := 100, 0
			if payerClosed {
				has, stray = 100-amt, amt
			}
			if x := g.nodes[0]; x.Accts[1].Have != has || x.Stray != stray || g.shares(0) != 0 {
				t.Errorf("%d of 100 was paid to a closed account, and this is left: %v", amt, x)
			}
		}
	}
}
