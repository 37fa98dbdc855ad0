package tests

import (
	"math"
	"math/rand"
	"slices"
	"testing"

	"loop.example/g00801/impl"
)

// sampleMsg returns a valid message; messages of neighbouring numbers differ in their kinds, and all differ in Amt or Acct.
func sampleMsg(i int) impl.Msg {
	i %= 600
	switch i % 5 {
	case 0:
		return impl.Msg{Kind: impl.MgRights, Acct: i % 3, Amt: 10 + i}
	case 1:
		return impl.Msg{Kind: impl.MgCredit, Acct: i % 3, Amt: 1000 + i, Src: (i + 1) % 3}
	case 2:
		return impl.Msg{Kind: impl.MgBounce, Acct: i % 3, Amt: impl.MaxAmt - i}
	case 3:
		return impl.Msg{Kind: impl.MgMark, Acct: i % 3, Amt: i % 4}
	}
	return impl.Msg{Kind: impl.MgReport, Acct: i % 3, Amt: impl.MaxNum - i}
}

func sampleMsgs(count int) []impl.Msg {
	l := []impl.Msg{}
	for i := range count {
		l = append(l, sampleMsg(i))
	}
	return l
}

func queued(next int, count int) impl.Out { return impl.Out{Next: next, List: sampleMsgs(count)} }

// badMsgs holds messages each of which breaks one rule.
func badMsgs() []impl.Msg {
	return []impl.Msg{
		{},
		{Kind: 6, Amt: 1},
		{Kind: -1, Amt: 1},
		{Kind: impl.MgRights, Acct: 3, Amt: 1},
		{Kind: impl.MgRights, Acct: -1, Amt: 1},
		{Kind: impl.MgRights, Amt: 0},
		{Kind: impl.MgRights, Amt: 1, Src: 1},
		{Kind: impl.MgCredit, Amt: 1, Src: 3},
		{Kind: impl.MgCredit, Amt: impl.MaxAmt + 1},
		{Kind: impl.MgBounce, Amt: -5},
		{Kind: impl.MgMark, Amt: 4},
		{Kind: impl.MgReport, Amt: impl.MaxNum + 1},
		{Kind: impl.MgReport, Amt: math.MinInt},
	}
}

func goodOuts() []impl.Out {
	l := []impl.Out{{Next: 1}, {Next: 1, List: []impl.Msg{}}, {Next: impl.MaxNum}, {Next: impl.MaxNum - 1, List: []impl.Msg{}}}
	for _, count := range []int{0, 1, 2, 3, 7, impl.MaxBox - 1, impl.MaxBox} {
		for _, next := range []int{count + 1, count + 2, count + 3, 2*count + 50, 1 << 32, impl.MaxNum - 1, impl.MaxNum} {
			l = append(l, queued(next, count))
		}
	}
	return l
}

// replaced returns a queue with another message at one place of its list.
func replaced(o impl.Out, place int, m impl.Msg) impl.Out {
	list := slices.Clone(o.List)
	list[place] = m
	return impl.Out{Next: o.Next, List: list}
}

func badOuts() []impl.Out {
	l := []impl.Out{{}, {List: []impl.Msg{}}}
	for _, count := range []int{0, 1, 5, impl.MaxBox} {
		for _, next := range append([]int{0, impl.MaxNum + 1}, oddInts...) {
			l = append(l, queued(next, count))
		}
	}
	for _, count := range []int{1, 2, 3, impl.MaxBox} {
		l = append(l, queued(count, count), queued(count-1, count), queued(1, count))
	}
	for _, count := range []int{impl.MaxBox + 1, impl.MaxBox + 2, 1000} {
		l = append(l, queued(count, count), queued(count+1, count), queued(5000, count), queued(impl.MaxNum, count))
	}
	for _, m := range badMsgs() {
		l = append(l, replaced(queued(2, 1), 0, m), replaced(queued(impl.MaxBox+1, impl.MaxBox), impl.MaxBox-1, m))
		for place := range 3 {
			l = append(l, replaced(queued(9, 3), place, m))
		}
	}
	return l
}

func allOuts() []impl.Out { return append(goodOuts(), badOuts()...) }

// heldAt numbers the messages from the last one back, as the document does.
func heldAt(o impl.Out) map[int]impl.Msg {
	held := map[int]impl.Msg{}
	seq := o.Next - 1
	for _, m := range slices.Backward(o.List) {
		held[seq] = m
		seq--
	}
	return held
}

// seqSamples holds the ends of the sequence numbers of o, what lies one and two beyond them, and numbers far away.
func seqSamples(o impl.Out) []int {
	l := []int{0, 1, 2}
	for away := -2; away <= 2; away++ {
		l = append(l, o.Next+away, o.Next-len(o.List)+away, o.Next-len(o.List)/2+away)
	}
	return append(l, oddInts...)
}

func isOut(t *testing.T, what string, got impl.Out, next int, list []impl.Msg) {
	t.Helper()
	if got.Next != next || !slices.Equal(got.List, list) {
		t.Errorf("%s: got %v, want Next %d and %v", what, got, next, list)
	}
}

func isNoOut(t *testing.T, what string, got impl.Out, ok bool) {
	t.Helper()
	if got.Next != 0 || len(got.List) != 0 || ok {
		t.Errorf("%s: got %v, %v", what, got, ok)
	}
}

func TestP10OutNew(t *testing.T) {
	if impl.MaxBox != 60 {
		t.Error("a constant of chapter 6 is wrong")
	}
	isOut(t, "OutNew", impl.OutNew(), 1, nil)
	if !impl.OutOk(impl.OutNew()) || impl.OutFirst(impl.OutNew()) != 1 {
		t.Error("OutNew is not valid")
	}
}

func TestP10OutOkExamples(t *testing.T) {
	one := impl.Msg{Kind: impl.MgRights, Amt: 1}
	for _, c := range []struct {
		o    impl.Out
		want bool
	}{
		{impl.Out{}, false},
		{impl.Out{Next: 0, List: []impl.Msg{}}, false},
		{impl.Out{Next: 1}, true},
		{impl.Out{Next: 1, List: []impl.Msg{}}, true},
		{impl.Out{Next: -1}, false},
		{impl.Out{Next: impl.MaxNum}, true},
		{impl.Out{Next: impl.MaxNum + 1}, false},
		{impl.Out{Next: math.MaxInt}, false},
		{impl.Out{Next: math.MinInt}, false},
		{impl.Out{Next: 1, List: []impl.Msg{one}}, false},
		{impl.Out{Next: 2, List: []impl.Msg{one}}, true},
		{impl.Out{Next: 2, List: []impl.Msg{one, one}}, false},
		{impl.Out{Next: 3, List: []impl.Msg{one, one}}, true},
		{impl.Out{Next: 3, List: []impl.Msg{one, {}}}, false},
		{impl.Out{Next: 3, List: []impl.Msg{{}, one}}, false},
		{queued(60, 60), false},
		{queued(61, 60), true},
		{queued(61, 61), false},
		{queued(62, 61), false},
		{queued(impl.MaxNum, 61), false},
		{queued(impl.MaxNum, 60), true},
	} {
		if impl.OutOk(c.o) != c.want {
			t.Errorf("OutOk(%v) is %v", c.o, !c.want)
		}
	}
}

func TestP10OutOkSamples(t *testing.T) {
	for _, o := range goodOuts() {
		if !impl.OutOk(o) {
			t.Errorf("OutOk(%v) is false", o)
		}
	}
	for _, o := range badOuts() {
		if impl.OutOk(o) {
			t.Errorf("OutOk(%v) is true", o)
		}
	}
}

// A queue is valid only if each of its messages is, at whatever place.
func TestP10OutOkChecksEveryMessage(t *testing.T) {
	eachMsg(func(m impl.Msg) {
		_, want := ruleFor(m)
		if impl.OutOk(impl.Out{Next: 4, List: []impl.Msg{sampleMsg(0), m, sampleMsg(1)}}) != want {
			t.Errorf("a queue with %v is valid: %v", m, !want)
		}
	})
	full := queued(500, impl.MaxBox)
	for place := range full.List {
		if impl.OutOk(replaced(full, place, impl.Msg{Kind: impl.MgRights})) {
			t.Errorf("the message at %d is not checked", place)
		}
	}
}

func TestP10OutPutAppends(t *testing.T) {
	for _, o := range goodOuts() {
		fits := len(o.List) < impl.MaxBox && o.Next < impl.MaxNum
		for i := range 10 {
			m := sampleMsg(100 + i)
			got, ok := impl.OutPut(o, m)
			if !fits {
				isNoOut(t, "a full queue", got, ok)
				continue
			}
			isOut(t, "OutPut", got, o.Next+1, slices.Concat(o.List, []impl.Msg{m}))
			if !ok || !impl.OutOk(got) {
				t.Errorf("OutPut(%v, %v) refuses, or its result is not valid", o, m)
			}
		}
	}
}

func TestP10OutPutChecksTheMessage(t *testing.T) {
	for _, o := range []impl.Out{impl.OutNew(), queued(9, 3)} {
		eachMsg(func(m impl.Msg) {
			got, ok := impl.OutPut(o, m)
			if _, good := ruleFor(m); !good {
				isNoOut(t, "a message that is not valid", got, ok)
			} else if !ok || got.Next != o.Next+1 || !slices.Equal(got.List, slices.Concat(o.List, []impl.Msg{m})) {
				t.Errorf("OutPut(%v, %v) = %v, %v", o, m, got, ok)
			}
		})
	}
}

// A queue takes MaxBox messages and no more, and takes one again for each that is acknowledged.
func TestP10OutPutFills(t *testing.T) {
	o := impl.OutNew()
	for i := range impl.MaxBox {
		longer, ok := impl.OutPut(o, sampleMsg(i))
		if !ok {
			t.Fatalf("message %d is refused", i)
		}
		o = longer
	}
	isOut(t, "a full queue", o, impl.MaxBox+1, sampleMsgs(impl.MaxBox))
	got, ok := impl.OutPut(o, sampleMsg(0))
	isNoOut(t, "one more", got, ok)
	o, _ = impl.OutAck(o, 1)
	o, ok = impl.OutPut(o, sampleMsg(impl.MaxBox))
	isOut(t, "one was acknowledged", o, impl.MaxBox+2, sampleMsgs(impl.MaxBox + 1)[1:])
	got, again := impl.OutPut(o, sampleMsg(0))
	isNoOut(t, "one more again", got, again)
	if !ok {
		t.Error("a queue refuses a message that it has room for")
	}
}

func TestP10OutPutLastNumber(t *testing.T) {
	m := impl.Msg{Kind: impl.MgMark, Amt: 3}
	o, ok := impl.OutPut(impl.Out{Next: impl.MaxNum - 1}, m)
	isOut(t, "the last sequence number", o, impl.MaxNum, []impl.Msg{m})
	if got, there := impl.OutAt(o, impl.MaxNum-1); !ok || got != m || !there {
		t.Error("the last sequence number is not used")
	}
	for _, full := range []impl.Out{o, {Next: impl.MaxNum}} {
		got, ok := impl.OutPut(full, m)
		isNoOut(t, "no sequence number is left", got, ok)
	}
}

func TestP10OutFirst(t *testing.T) {
	for _, o := range goodOuts() {
		if got := impl.OutFirst(o); got != o.Next-len(o.List) {
			t.Errorf("OutFirst(%v) = %d", o, got)
		}
	}
	for want, o := range map[int]impl.Out{1: queued(4, 3), 4: queued(4, 0), 3: queued(4, 1), 7: queued(67, 60), impl.MaxNum: {Next: impl.MaxNum}} {
		if got := impl.OutFirst(o); got != want {
			t.Errorf("OutFirst(%v) = %d", o, got)
		}
	}
}

func TestP10OutAt(t *testing.T) {
	o := impl.Out{Next: 7, List: []impl.Msg{sampleMsg(5), sampleMsg(6), sampleMsg(7)}}
	for seq := -3; seq < 12; seq++ {
		m, ok := impl.OutAt(o, seq)
		if seq >= 4 && seq <= 6 && (!ok || m != sampleMsg(seq+1)) || (seq < 4 || seq > 6) && (ok || m != impl.Msg{}) {
			t.Errorf("OutAt(%v, %d) = %v, %v", o, seq, m, ok)
		}
	}
	for _, o := range goodOuts() {
		held := heldAt(o)
		for _, seq := range seqSamples(o) {
			want, there := held[seq]
			if m, ok := impl.OutAt(o, seq); m != want || ok != there {
				t.Errorf("OutAt(%v, %d) = %v, %v", o, seq, m, ok)
			}
		}
	}
}

// ackModel keeps the messages whose sequence numbers are greater than seq.
func ackModel(o impl.Out, seq int) []impl.Msg {
	held, kept := heldAt(o), []impl.Msg{}
	for n := o.Next - len(o.List); n < o.Next; n++ {
		if n > seq {
			kept = append(kept, held[n])
		}
	}
	return kept
}

func TestP10OutAck(t *testing.T) {
	for _, o := range goodOuts() {
		for _, seq := range seqSamples(o) {
			got, ok := impl.OutAck(o, seq)
			if seq < 0 || seq > o.Next-1 {
				isNoOut(t, "no such sequence number", got, ok)
				continue
			}
			isOut(t, "OutAck", got, o.Next, ackModel(o, seq))
			if !ok || !impl.OutOk(got) {
				t.Errorf("OutAck(%v, %d) refuses, or its result is not valid", o, seq)
			}
		}
	}
}

func TestP10OutAckExamples(t *testing.T) {
	o := queued(9, 3)
	for seq, left := range map[int]int{0: 3, 1: 3, 5: 3, 6: 2, 7: 1, 8: 0} {
		got, ok := impl.OutAck(o, seq)
		isOut(t, "OutAck", got, 9, sampleMsgs(3)[3-left:])
		if !ok {
			t.Errorf("OutAck to %d refuses", seq)
		}
	}
	for _, seq := range []int{-1, 9, 10, math.MaxInt, math.MinInt} {
		got, ok := impl.OutAck(o, seq)
		isNoOut(t, "OutAck", got, ok)
	}
	got, ok := impl.OutAck(impl.OutNew(), 0)
	isOut(t, "nothing was sent", got, 1, nil)
	if !ok {
		t.Error("OutAck of an empty queue to 0 refuses")
	}
	got, ok = impl.OutAck(impl.OutNew(), 1)
	isNoOut(t, "what was never sent", got, ok)
}

// An acknowledgement that arrives again, or after a later one, changes nothing.
func TestP7AcknowledgementsAgain(t *testing.T) {
	for _, o := range goodOuts() {
		for seq := max(0, o.Next-len(o.List)-2); seq < o.Next; seq++ {
			once, _ := impl.OutAck(o, seq)
			for older := max(0, seq-5); older <= seq; older++ {
				again, ok := impl.OutAck(once, older)
				isOut(t, "an older acknowledgement", again, once.Next, once.List)
				if !ok {
					t.Errorf("OutAck(%v, %d) refuses", once, older)
				}
			}
		}
	}
}

func TestP7InTake(t *testing.T) {
	nums := append([]int{0, 1, 2, 3, 4, 5, 127, 128, impl.MaxNum - 1, impl.MaxNum}, oddInts...)
	for _, last := range slices.Clone(nums) {
		for _, near := range []int{-2, -1, 0, 1, 2} {
			nums = append(nums, last+near)
		}
	}
	for _, last := range nums {
		for _, seq := range nums {
			want, fresh := last, false
			if last != math.MaxInt && seq == last+1 {
				want, fresh = seq, true
			}
			if got, ok := impl.InTake(last, seq); got != want || ok != fresh {
				t.Errorf("InTake(%d, %d) = %d, %v", last, seq, got, ok)
			}
		}
	}
}

func TestP7InTakeExamples(t *testing.T) {
	for _, c := range []struct {
		last, seq, want int
		ok              bool
	}{
		{0, 1, 1, true},
		{0, 0, 0, false},
		{4, 4, 4, false},
		{4, 5, 5, true},
		{4, 6, 4, false},
		{4, 3, 4, false},
		{4, -5, 4, false},
		{-1, 0, 0, true},
		{math.MaxInt, math.MinInt, math.MaxInt, false},
		{math.MaxInt, math.MaxInt, math.MaxInt, false},
		{math.MaxInt - 1, math.MaxInt, math.MaxInt, true},
		{math.MinInt, math.MinInt + 1, math.MinInt + 1, true},
		{math.MinInt, math.MinInt, math.MinInt, false},
		{math.MinInt, math.MaxInt, math.MinInt, false},
	} {
		if got, ok := impl.InTake(c.last, c.seq); got != c.want || ok != c.ok {
			t.Errorf("InTake(%d, %d) = %d, %v", c.last, c.seq, got, ok)
		}
	}
}

func sameBothWays(t *testing.T, a impl.Out, b impl.Out, want bool) {
	t.Helper()
	if impl.OutSame(a, b) != want || impl.OutSame(b, a) != want {
		t.Errorf("%v and %v are not told to be equal: %v", a, b, want)
	}
}

func TestP10OutSame(t *testing.T) {
	for _, o := range allOuts() {
		sameBothWays(t, o, o, true)
		sameBothWays(t, o, impl.Out{Next: o.Next, List: slices.Clone(o.List)}, true)
		sameBothWays(t, o, impl.Out{Next: o.Next ^ 1, List: o.List}, false)
		sameBothWays(t, o, impl.Out{Next: o.Next ^ 1<<40, List: o.List}, false)
		sameBothWays(t, o, impl.Out{Next: o.Next, List: slices.Concat(o.List, []impl.Msg{{}})}, false)
		sameBothWays(t, o, impl.Out{Next: o.Next, List: slices.Concat(o.List, []impl.Msg{sampleMsg(0)})}, false)
		if len(o.List) > 0 {
			sameBothWays(t, o, impl.Out{Next: o.Next, List: o.List[1:]}, false)
			sameBothWays(t, o, impl.Out{Next: o.Next, List: o.List[:len(o.List)-1]}, false)
		}
		for place, m := range o.List[:min(len(o.List), impl.MaxBox)] {
			sameBothWays(t, o, replaced(o, place, impl.Msg{Kind: m.Kind + 1, Acct: m.Acct, Amt: m.Amt, Src: m.Src}), false)
			sameBothWays(t, o, replaced(o, place, impl.Msg{Kind: m.Kind, Acct: m.Acct - 1, Amt: m.Amt, Src: m.Src}), false)
			sameBothWays(t, o, replaced(o, place, impl.Msg{Kind: m.Kind, Acct: m.Acct, Amt: m.Amt ^ 1<<33, Src: m.Src}), false)
			sameBothWays(t, o, replaced(o, place, impl.Msg{Kind: m.Kind, Acct: m.Acct, Amt: m.Amt, Src: m.Src + 1}), false)
		}
	}
}

func TestP10OutSameExamples(t *testing.T) {
	a, b := sampleMsg(1), sampleMsg(2)
	sameBothWays(t, impl.OutNew(), impl.Out{Next: 1, List: []impl.Msg{}}, true)
	sameBothWays(t, impl.Out{}, impl.Out{List: []impl.Msg{}}, true)
	sameBothWays(t, impl.Out{}, impl.OutNew(), false)
	sameBothWays(t, impl.Out{Next: 9, List: []impl.Msg{a, b}}, impl.Out{Next: 9, List: []impl.Msg{b, a}}, false)
	sameBothWays(t, impl.Out{Next: 9, List: []impl.Msg{a, a}}, impl.Out{Next: 9, List: []impl.Msg{a}}, false)
	sameBothWays(t, impl.Out{Next: -4, List: []impl.Msg{{}}}, impl.Out{Next: -4, List: []impl.Msg{{}}}, true)
}

func TestP10OutWorthExamples(t *testing.T) {
	o := impl.Out{Next: 9, List: []impl.Msg{
		{Kind: impl.MgRights, Amt: 5},
		{Kind: impl.MgMark, Amt: 3},
		{Kind: impl.MgCredit, Amt: 70, Src: 2},
		{Kind: impl.MgReport, Amt: 4000},
		{Kind: impl.MgBounce, Amt: 900},
	}}
	for last, want := range map[int]int{math.MinInt: 975, -1: 975, 0: 975, 3: 975, 4: 970, 5: 970, 6: 900, 7: 900, 8: 0, 9: 0, 10: 0, math.MaxInt: 0} {
		if got := impl.OutWorth(o, last); got != want {
			t.Errorf("OutWorth(%v, %d) = %d", o, last, got)
		}
	}
	for _, last := range append([]int{0, 1, 2}, oddInts...) {
		if got := impl.OutWorth(impl.OutNew(), last); got != 0 {
			t.Errorf("the worth of an empty queue is %d", got)
		}
	}
	full := impl.Out{Next: impl.MaxNum, List: slices.Repeat([]impl.Msg{{Kind: impl.MgCredit, Amt: impl.MaxAmt}}, impl.MaxBox)}
	if got := impl.OutWorth(full, 0); got != impl.MaxBox*impl.MaxAmt {
		t.Errorf("the worth of a full queue is %d", got)
	}
}

func TestP10OutWorth(t *testing.T) {
	for _, o := range goodOuts() {
		for _, last := range seqSamples(o) {
			want := 0
			for seq, m := range heldAt(o) {
				if r, ok := ruleFor(m); seq > last && ok && r.money {
					want += m.Amt
				}
			}
			if got := impl.OutWorth(o, last); got != want {
				t.Errorf("OutWorth(%v, %d) = %d", o, last, got)
			}
		}
	}
}

func TestP10QueuesThatAreNotValid(t *testing.T) {
	for _, o := range badOuts() {
		put, ok := impl.OutPut(o, sampleMsg(0))
		isNoOut(t, "OutPut", put, ok)
		put, ok = impl.OutPut(o, impl.Msg{})
		isNoOut(t, "OutPut", put, ok)
		if got := impl.OutFirst(o); got != 0 {
			t.Errorf("OutFirst(%v) = %d", o, got)
		}
		for _, seq := range seqSamples(o) {
			if m, ok := impl.OutAt(o, seq); m != (impl.Msg{}) || ok {
				t.Errorf("OutAt(%v, %d) = %v, %v", o, seq, m, ok)
			}
			heard, ok := impl.OutAck(o, seq)
			isNoOut(t, "OutAck", heard, ok)
			if got := impl.OutWorth(o, seq); got != 0 {
				t.Errorf("OutWorth(%v, %d) = %d", o, seq, got)
			}
		}
	}
}

// Whatever numbers arrive, the accepted ones are 1, 2, 3 and so on, and none is missing that could be accepted.
func TestP7EveryOrderOfArrival(t *testing.T) {
	const length, most = 6, 5
	arrivals := make([]int, length)
	for code := range 46656 {
		for i := range arrivals {
			arrivals[i] = code % (most + 1)
			code /= most + 1
		}
		last, accepted := 0, []int{}
		for _, seq := range arrivals {
			now, ok := impl.InTake(last, seq)
			if ok {
				accepted = append(accepted, seq)
			}
			last = now
		}
		want := 0
		for _, seq := range arrivals {
			if seq-want == 1 {
				want = seq
			}
		}
		for i, seq := range accepted {
			if seq != i+1 {
				t.Fatalf("%v: accepted %v", arrivals, accepted)
			}
		}
		if len(accepted) != want || last != want {
			t.Fatalf("%v: accepted %v, of %d", arrivals, accepted, want)
		}
	}
}

// link is a sender, a receiver and everything that was ever on the way between them. What is on the way stays there, so that it can arrive again at any later time.
type link struct {
	out      impl.Out
	last     int
	sent     []impl.Msg
	accepted []impl.Msg
	onTheWay map[int]impl.Msg
	seqs     []int
	heard    []int
}

func (l *link) send(m impl.Msg) bool {
	longer, ok := impl.OutPut(l.out, m)
	if ok {
		l.out = longer
		l.sent = append(l.sent, m)
	}
	return ok
}

// transmit puts a message that waits on its way, or does nothing if seq has none.
func (l *link) transmit(seq int) {
	m, ok := impl.OutAt(l.out, seq)
	if ok {
		l.onTheWay[seq] = m
		l.seqs = append(l.seqs, seq)
	}
}

func (l *link) arrive(seq int) {
	now, fresh := impl.InTake(l.last, seq)
	if fresh {
		l.accepted = append(l.accepted, l.onTheWay[seq])
	}
	l.last = now
	l.heard = append(l.heard, now)
}

func (l *link) acknowledge(t *testing.T, seq int) {
	t.Helper()
	shorter, ok := impl.OutAck(l.out, seq)
	if !ok {
		t.Fatalf("the acknowledgement %d is refused by %v", seq, l.out)
	}
	l.out = shorter
}

// check compares what was accepted with what was sent; what is not accepted must still wait, with its money.
func (l *link) check(t *testing.T) {
	t.Helper()
	if !impl.OutOk(l.out) || len(l.accepted) != l.last || l.out.Next != len(l.sent)+1 {
		t.Fatalf("after %d messages, %d are accepted, up to %d, and the queue is %v", len(l.sent), len(l.accepted), l.last, l.out)
	}
	if !slices.Equal(l.accepted, l.sent[:l.last]) {
		t.Fatalf("accepted %v of %v", l.accepted, l.sent)
	}
	if impl.OutFirst(l.out) > l.last+1 {
		t.Fatalf("message %d was dropped before it was accepted", l.last+1)
	}
	waiting, worth := l.sent[l.last:], 0
	for _, m := range waiting {
		worth += impl.MsgWorth(m)
	}
	if !slices.Equal(waiting, l.out.List[len(l.out.List)-len(waiting):]) {
		t.Fatalf("the messages behind %d do not wait in %v", l.last, l.out)
	}
	if got := impl.OutWorth(l.out, l.last); got != worth {
		t.Fatalf("%d is in transit, not %d", got, worth)
	}
}

func anyOf(r *rand.Rand, l []int) int {
	// Recent ones are chosen more often, so that a run gets on.
	if r.Intn(2) == 0 {
		return l[max(0, len(l)-1-r.Intn(4))]
	}
	return l[r.Intn(len(l))]
}

func (l *link) act(t *testing.T, r *rand.Rand) {
	t.Helper()
	switch k := r.Intn(8); {
	case k == 0:
		l.send(sampleMsg(len(l.sent)))
	case k < 4:
		l.transmit(impl.OutFirst(l.out) + r.Intn(3))
	case k < 7 && len(l.seqs) > 0:
		l.arrive(anyOf(r, l.seqs))
	case k == 7 && len(l.heard) > 0:
		l.acknowledge(t, anyOf(r, l.heard))
	}
}

// flush lets every message that waits arrive, the last one first, as often as it takes.
func (l *link) flush(t *testing.T) {
	t.Helper()
	for range impl.MaxBox + 1 {
		for seq := l.out.Next - 1; seq >= impl.OutFirst(l.out); seq-- {
			l.transmit(seq)
			l.arrive(seq)
		}
		l.acknowledge(t, l.last)
	}
}

func TestP7EachMessageOnceAndInOrder(t *testing.T) {
	total := 0
	for seed := range 40 {
		r := rand.New(rand.NewSource(int64(seed)))
		l := &link{out: impl.OutNew(), onTheWay: map[int]impl.Msg{}}
		for range 1500 {
			l.act(t, r)
			l.check(t)
		}
		total += len(l.accepted)
		l.flush(t)
		l.check(t)
		if len(l.accepted) != len(l.sent) || len(l.out.List) != 0 {
			t.Fatalf("%d of %d messages arrived, and %d wait", len(l.accepted), len(l.sent), len(l.out.List))
		}
	}
	if total < 2000 {
		t.Errorf("only %d messages were accepted in the runs", total)
	}
}

// hiddenMsg fills the spare capacity behind a list; it is valid, so that a function that reads it is seen.
var hiddenMsg = impl.Msg{Kind: impl.MgRights, Amt: 424242}

func TestP10OutResultsAreNewMemory(t *testing.T) {
	mess := impl.Msg{Kind: 99}
	for _, o := range allOuts() {
		list := guard(o.List, hiddenMsg)
		arg := impl.Out{Next: o.Next, List: list.arg}
		results := [][]impl.Msg{}
		for _, m := range []impl.Msg{sampleMsg(0), sampleMsg(0), {}} {
			got, _ := impl.OutPut(arg, m)
			results = append(results, got.List)
		}
		for _, seq := range seqSamples(o) {
			got, _ := impl.OutAck(arg, seq)
			results = append(results, got.List)
		}
		apart(t, "OutPut and OutAck", mess, results, list)
	}
	fresh := [][]impl.Msg{impl.OutNew().List, impl.OutNew().List}
	apart(t, "OutNew", mess, fresh)
}

func TestP10OutArgumentsStay(t *testing.T) {
	for _, o := range allOuts() {
		list, other := guard(o.List, hiddenMsg), guard(o.List, impl.Msg{})
		arg, same := impl.Out{Next: o.Next, List: list.arg}, impl.Out{Next: o.Next, List: other.arg}
		if impl.OutOk(arg) != impl.OutOk(o) || impl.OutFirst(arg) != impl.OutFirst(o) || !impl.OutSame(arg, same) {
			t.Errorf("the memory behind the list of %v changes a result", o)
		}
		for _, seq := range seqSamples(o) {
			behind, _ := impl.OutAt(arg, seq)
			want, _ := impl.OutAt(o, seq)
			if behind != want || impl.OutWorth(arg, seq) != impl.OutWorth(o, seq) {
				t.Errorf("the memory behind the list of %v changes a result at %d", o, seq)
			}
		}
		list.unchanged(t, "a function of chapter 6")
		other.unchanged(t, "OutSame")
	}
}

// Two queues that grow from the same one do not see each other's messages.
func TestP10QueuesGrowApart(t *testing.T) {
	base := impl.Out{Next: 9, List: guard(sampleMsgs(3), hiddenMsg).arg}
	a, _ := impl.OutPut(base, sampleMsg(10))
	b, _ := impl.OutPut(base, sampleMsg(11))
	c, _ := impl.OutAck(a, 6)
	d, _ := impl.OutPut(c, sampleMsg(12))
	e, _ := impl.OutPut(c, sampleMsg(13))
	isOut(t, "the first", a, 10, append(sampleMsgs(3), sampleMsg(10)))
	isOut(t, "the second", b, 10, append(sampleMsgs(3), sampleMsg(11)))
	isOut(t, "the first, shortened", c, 10, append(sampleMsgs(3)[1:], sampleMsg(10)))
	isOut(t, "the third", d, 11, append(sampleMsgs(3)[1:], sampleMsg(10), sampleMsg(12)))
	isOut(t, "the fourth", e, 11, append(sampleMsgs(3)[1:], sampleMsg(10), sampleMsg(13)))
}
