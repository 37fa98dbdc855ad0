package tests

import (
	"bytes"
	"encoding/binary"
	"math"
	"math/rand"
	"slices"
	"strconv"
	"testing"

	"loop.example/g00801/impl"
)

// msgRule is what the document says of one kind of message.
type msgRule struct {
	kind    int
	name    string
	low     int
	high    int
	lastSrc int
	money   bool
}

func msgRules() []msgRule {
	return []msgRule{
		{1, "rights", 1, 1000000000, 0, true},
		{2, "credit", 1, 1000000000, 2, true},
		{3, "bounce", 1, 1000000000, 0, true},
		{4, "mark", 0, 3, 0, false},
		{5, "report", 0, 1125899906842624, 0, false},
	}
}

func (r msgRule) allows(m impl.Msg) bool {
	return m.Acct >= 0 && m.Acct <= 2 && m.Amt >= r.low && m.Amt <= r.high && m.Src >= 0 && m.Src <= r.lastSrc
}

// ruleFor returns the rule that m keeps; there is none if m is not valid.
func ruleFor(m impl.Msg) (msgRule, bool) {
	for _, r := range msgRules() {
		if r.kind == m.Kind {
			return r, r.allows(m)
		}
	}
	return msgRule{}, false
}

// kindSamples and the functions below hold the ends of a range and what lies one beyond them.
func kindSamples() []int { return append([]int{0, 1, 2, 3, 4, 5, 6, 7, 129, 257}, oddInts...) }

func acctSamples() []int { return append([]int{0, 1, 2, 3, 4, 128, 256}, oddInts...) }

func amtSamples() []int {
	l := []int{0, 1, 2, 3, 4, 5, 127, 128, 300, impl.MaxAmt - 1, impl.MaxAmt, impl.MaxAmt + 1, 1<<32 + 1, impl.MaxNum - 1, impl.MaxNum}
	return append(l, oddInts...)
}

// eachMsg runs a check on messages of every kind and of none, valid or not.
func eachMsg(check func(m impl.Msg)) {
	for _, kind := range kindSamples() {
		for _, acct := range acctSamples() {
			for _, amt := range amtSamples() {
				for _, src := range acctSamples() {
					check(impl.Msg{Kind: kind, Acct: acct, Amt: amt, Src: src})
				}
			}
		}
	}
}

// goodMsgs holds valid messages of each kind, at the ends of all ranges and between them.
func goodMsgs() []impl.Msg {
	l := []impl.Msg{}
	eachMsg(func(m impl.Msg) {
		if _, ok := ruleFor(m); ok {
			l = append(l, m)
		}
	})
	return l
}

func rawNums(nums ...int) []byte {
	b := []byte{}
	for _, n := range nums {
		b = binary.AppendUvarint(b, uint64(n))
	}
	return b
}

// rawMsg encodes a message by the document's words alone, also one that no function may write or read.
func rawMsg(m impl.Msg) []byte { return rawNums(m.Kind, m.Acct, m.Amt, m.Src) }

func isMsg(t *testing.T, what string, b []byte, at int, want impl.Msg) {
	t.Helper()
	m, next, ok := impl.MsgGet(b, at)
	if !ok || m != want || next != at+len(rawMsg(want)) {
		t.Errorf("%s: at %d of %v, %v is read as %v, %d, %v", what, at, b, want, m, next, ok)
	}
}

func refusesMsg(t *testing.T, what string, b []byte, at int) {
	t.Helper()
	if m, next, ok := impl.MsgGet(b, at); m != (impl.Msg{}) || next != 0 || ok {
		t.Errorf("%s: MsgGet(%v, %d) = %v, %d, %v", what, b, at, m, next, ok)
	}
}

func TestP10ConstantsOfMessages(t *testing.T) {
	if impl.MgRights != 1 || impl.MgCredit != 2 || impl.MgBounce != 3 || impl.MgMark != 4 || impl.MgReport != 5 {
		t.Error("a constant of chapter 5 is wrong")
	}
}

func TestP10MsgOkExamples(t *testing.T) {
	for _, c := range []struct {
		m    impl.Msg
		want bool
	}{
		{impl.Msg{}, false},
		{impl.Msg{Kind: impl.MgRights, Acct: 2, Amt: 50}, true},
		{impl.Msg{Kind: impl.MgRights}, false},
		{impl.Msg{Kind: impl.MgRights, Amt: 1, Src: 1}, false},
		{impl.Msg{Kind: impl.MgCredit, Acct: 1, Amt: impl.MaxAmt, Src: 2}, true},
		{impl.Msg{Kind: impl.MgCredit, Acct: 1, Amt: 5, Src: 1}, true},
		{impl.Msg{Kind: impl.MgCredit, Acct: 1, Amt: impl.MaxAmt + 1, Src: 2}, false},
		{impl.Msg{Kind: impl.MgCredit, Acct: 1, Amt: 5, Src: 3}, false},
		{impl.Msg{Kind: impl.MgBounce, Amt: 1}, true},
		{impl.Msg{Kind: impl.MgBounce, Acct: 3, Amt: 1}, false},
		{impl.Msg{Kind: impl.MgMark}, true},
		{impl.Msg{Kind: impl.MgMark, Amt: 3}, true},
		{impl.Msg{Kind: impl.MgMark, Amt: 4}, false},
		{impl.Msg{Kind: impl.MgReport}, true},
		{impl.Msg{Kind: impl.MgReport, Amt: impl.MaxNum}, true},
		{impl.Msg{Kind: impl.MgReport, Amt: impl.MaxNum + 1}, false},
		{impl.Msg{Kind: 6, Amt: 1}, false},
		{impl.Msg{Kind: 0, Amt: 1}, false},
	} {
		if impl.MsgOk(c.m) != c.want {
			t.Errorf("MsgOk(%v) is %v", c.m, !c.want)
		}
	}
}

func TestP10MsgOkRanges(t *testing.T) {
	eachMsg(func(m impl.Msg) {
		if _, want := ruleFor(m); impl.MsgOk(m) != want {
			t.Errorf("MsgOk(%v) is %v", m, !want)
		}
	})
}

func TestP10MsgPutBytes(t *testing.T) {
	for _, c := range []struct {
		m    impl.Msg
		want []byte
	}{
		{impl.Msg{Kind: impl.MgRights, Acct: 0, Amt: 1}, []byte{1, 0, 1, 0}},
		{impl.Msg{Kind: impl.MgCredit, Acct: 1, Amt: 300, Src: 2}, []byte{2, 1, 172, 2, 2}},
		{impl.Msg{Kind: impl.MgBounce, Acct: 2, Amt: impl.MaxAmt}, []byte{3, 2, 128, 148, 235, 220, 3, 0}},
		{impl.Msg{Kind: impl.MgMark, Acct: 1, Amt: 3}, []byte{4, 1, 3, 0}},
		{impl.Msg{Kind: impl.MgReport, Acct: 2, Amt: 0}, []byte{5, 2, 0, 0}},
		{impl.Msg{Kind: impl.MgReport, Acct: 0, Amt: impl.MaxNum}, []byte{5, 0, 128, 128, 128, 128, 128, 128, 128, 2, 0}},
	} {
		for _, front := range [][]byte{nil, {}, {7}, {0, 200, 9}, numbered(300, 1)} {
			got, ok := impl.MsgPut(front, c.m)
			if !ok || !bytes.Equal(got, slices.Concat(front, c.want)) {
				t.Errorf("MsgPut(%v, %v) = %v, %v", front, c.m, got, ok)
			}
		}
	}
}

func TestP10MsgPutRanges(t *testing.T) {
	front := []byte{9, 128}
	eachMsg(func(m impl.Msg) {
		got, ok := impl.MsgPut(front, m)
		_, good := ruleFor(m)
		if !good && (got != nil || ok) {
			t.Errorf("MsgPut of %v = %v, %v", m, got, ok)
		}
		if good && (!ok || !bytes.Equal(got, slices.Concat(front, rawMsg(m)))) {
			t.Errorf("MsgPut of %v = %v, %v", m, got, ok)
		}
	})
}

func TestP6MessageEncoding(t *testing.T) {
	for _, m := range goodMsgs() {
		for _, front := range [][]byte{nil, {9}, {128, 0, 200}, rawMsg(impl.Msg{Kind: 1, Amt: 7})} {
			b, ok := impl.MsgPut(front, m)
			if !ok {
				t.Fatalf("MsgPut refuses %v", m)
			}
			isMsg(t, "at the end", b, len(front), m)
			isMsg(t, "before other bytes", slices.Concat(b, []byte{128, 0}), len(front), m)
			isMsg(t, "before another message", slices.Concat(b, rawMsg(m)), len(front), m)
		}
	}
}

// Messages that are appended one after the other are read one after the other.
func TestP6ConsecutiveMessages(t *testing.T) {
	all := goodMsgs()
	b := []byte{}
	for _, m := range all {
		longer, ok := impl.MsgPut(b, m)
		if !ok {
			t.Fatalf("MsgPut refuses %v", m)
		}
		b = longer
	}
	at := 0
	for _, want := range all {
		m, next, ok := impl.MsgGet(b, at)
		if !ok || m != want {
			t.Fatalf("%v is read as %v, %v", want, m, ok)
		}
		at = next
	}
	if at != len(b) {
		t.Errorf("the messages end at %d of %d", at, len(b))
	}
	refusesMsg(t, "behind the last message", b, at)
}

func TestP10MsgGetOutside(t *testing.T) {
	m := impl.Msg{Kind: impl.MgCredit, Acct: 1, Amt: 300, Src: 2}
	for _, b := range [][]byte{nil, {}, rawMsg(m), slices.Concat([]byte{9}, rawMsg(m), rawMsg(m))} {
		last := len(b)
		for _, at := range append([]int{last, last + 1, 2*last + 1, -last - 1, math.MaxInt - last, math.MinInt + last}, oddInts...) {
			refusesMsg(t, "outside", b, at)
		}
	}
	// Every number of this message is one byte, so each offset but the first one has too few.
	short := rawMsg(impl.Msg{Kind: impl.MgMark, Acct: 1, Amt: 2})
	for at := 1; at < len(short); at++ {
		refusesMsg(t, "too few numbers", short, at)
	}
}

func TestP10CutMessagesAreRefused(t *testing.T) {
	front := []byte{1, 1}
	for _, m := range goodMsgs() {
		b := slices.Concat(front, rawMsg(m))
		for end := range len(b) {
			for _, cut := range [][]byte{b[:end], slices.Clone(b[:end])} {
				refusesMsg(t, "a cut message", cut, len(front))
				if end >= len(front) {
					refusesMsg(t, "a cut message at 0", cut[len(front):], 0)
				}
			}
		}
	}
}

// Four numbers are a message only if the message is valid.
func TestP10MsgGetRanges(t *testing.T) {
	eachMsg(func(m impl.Msg) {
		if _, ok := ruleFor(m); ok {
			isMsg(t, "a valid message", rawMsg(m), 0, m)
			return
		}
		b := slices.Concat([]byte{5}, rawMsg(m), []byte{0, 0, 0, 0})
		refusesMsg(t, "a message that is not valid", b, 1)
	})
}

// padded encodes one of the numbers with a last byte of 0 that it does not need.
func padded(nums []int, which int) []byte {
	b := []byte{}
	for i, n := range nums {
		one := rawNums(n)
		if i == which {
			one[len(one)-1] |= 128
			one = append(one, 0)
		}
		b = append(b, one...)
	}
	return b
}

func TestP10LongNumbersAreRefused(t *testing.T) {
	for _, m := range goodMsgs() {
		nums := []int{m.Kind, m.Acct, m.Amt, m.Src}
		isMsg(t, "numbers as short as they can be", padded(nums, -1), 0, m)
		for which := range nums {
			b := padded(nums, which)
			refusesMsg(t, "a number that is too long", b, 0)
			refusesMsg(t, "a number that is too long", slices.Concat([]byte{9}, b, []byte{0, 0}), 1)
		}
	}
}

// msgModel looks for the message of which b holds the encoding.
func msgModel(b []byte, at int) (impl.Msg, int, bool) {
	nums := [4]int{}
	end := at
	for i := range nums {
		if end < 0 || end >= len(b) {
			return impl.Msg{}, 0, false
		}
		n, size := binary.Uvarint(b[end:])
		if size <= 0 || n > impl.MaxNum || !bytes.Equal(rawNums(int(n)), b[end:end+size]) {
			return impl.Msg{}, 0, false
		}
		nums[i] = int(n)
		end += size
	}
	m := impl.Msg{Kind: nums[0], Acct: nums[1], Amt: nums[2], Src: nums[3]}
	if _, ok := ruleFor(m); !ok {
		return impl.Msg{}, 0, false
	}
	return m, end, true
}

// Bytes of any kind are read as the document says, at every offset.
func TestP10AnyBytesAsMessages(t *testing.T) {
	r := rand.New(rand.NewSource(9))
	found := 0
	for range 20000 {
		b := make([]byte, r.Intn(16))
		for i := range b {
			b[i] = byte([]int{0, 0, 1, 1, 2, 3, 4, 5, 6, 127, 128, 129, 255, r.Intn(256)}[r.Intn(14)])
		}
		for at := -1; at <= len(b)+1; at++ {
			if m, _, ok := msgModel(b, at); ok {
				found++
				isMsg(t, "any bytes", b, at, m)
			} else {
				refusesMsg(t, "any bytes", b, at)
			}
		}
	}
	if found < 1000 {
		t.Errorf("only %d messages were among the bytes", found)
	}
}

func TestP10MsgName(t *testing.T) {
	for k, want := range map[int]string{impl.MgRights: "rights", impl.MgCredit: "credit", impl.MgBounce: "bounce", impl.MgMark: "mark", impl.MgReport: "report"} {
		if got := impl.MsgName(k); got != want {
			t.Errorf("MsgName(%d) = %q", k, got)
		}
	}
	for _, k := range kindSamples() {
		if got := impl.MsgName(k); (k < 1 || k > 5) && got != "" {
			t.Errorf("MsgName(%d) = %q", k, got)
		}
	}
}

func TestP6MsgTextExamples(t *testing.T) {
	for want, m := range map[string]impl.Msg{
		"rights 2 1 0":                {Kind: impl.MgRights, Acct: 2, Amt: 1},
		"credit 1 300 2":              {Kind: impl.MgCredit, Acct: 1, Amt: 300, Src: 2},
		"credit 0 1000000000 0":       {Kind: impl.MgCredit, Amt: impl.MaxAmt},
		"bounce 0 77 0":               {Kind: impl.MgBounce, Amt: 77},
		"mark 1 3 0":                  {Kind: impl.MgMark, Acct: 1, Amt: 3},
		"mark 0 0 0":                  {Kind: impl.MgMark},
		"report 2 0 0":                {Kind: impl.MgReport, Acct: 2},
		"report 0 1125899906842624 0": {Kind: impl.MgReport, Amt: impl.MaxNum},
	} {
		if got := impl.MsgText(m); got != want {
			t.Errorf("MsgText(%v) = %q", m, got)
		}
	}
}

func TestP6MsgTextRanges(t *testing.T) {
	eachMsg(func(m impl.Msg) {
		want := ""
		if r, ok := ruleFor(m); ok {
			want = r.name + " " + strconv.Itoa(m.Acct) + " " + strconv.Itoa(m.Amt) + " " + strconv.Itoa(m.Src)
		}
		if got := impl.MsgText(m); got != want {
			t.Errorf("MsgText(%v) = %q", m, got)
		}
	})
}

// A string belongs to one message only.
func TestP6MsgTextsDiffer(t *testing.T) {
	seen := map[string]impl.Msg{}
	for _, m := range goodMsgs() {
		s := impl.MsgText(m)
		if other, ok := seen[s]; ok {
			t.Errorf("%v and %v are both %q", m, other, s)
		}
		seen[s] = m
	}
}

func TestP10MsgWorthExamples(t *testing.T) {
	for _, c := range []struct {
		m    impl.Msg
		want int
	}{
		{impl.Msg{Kind: impl.MgRights, Amt: 50}, 50},
		{impl.Msg{Kind: impl.MgCredit, Acct: 1, Amt: 300, Src: 2}, 300},
		{impl.Msg{Kind: impl.MgBounce, Amt: impl.MaxAmt}, impl.MaxAmt},
		{impl.Msg{Kind: impl.MgMark, Amt: 3}, 0},
		{impl.Msg{Kind: impl.MgReport, Amt: 9}, 0},
		{impl.Msg{Kind: impl.MgRights, Amt: 50, Src: 1}, 0},
		{impl.Msg{Kind: impl.MgCredit, Acct: 3, Amt: 50}, 0},
		{impl.Msg{Kind: impl.MgBounce, Amt: impl.MaxAmt + 1}, 0},
		{impl.Msg{Amt: 50}, 0},
	} {
		if got := impl.MsgWorth(c.m); got != c.want {
			t.Errorf("MsgWorth(%v) = %d", c.m, got)
		}
	}
}

func TestP10MsgWorthRanges(t *testing.T) {
	eachMsg(func(m impl.Msg) {
		want := 0
		if r, ok := ruleFor(m); ok && r.money {
			want = m.Amt
		}
		if got := impl.MsgWorth(m); got != want {
			t.Errorf("MsgWorth(%v) = %d", m, got)
		}
	})
}

func TestP10MsgPutResultsAreNewMemory(t *testing.T) {
	for _, front := range [][]byte{{}, {9}, numbered(500, 1)} {
		for _, m := range append(goodMsgs(), impl.Msg{}, impl.Msg{Kind: 6, Amt: 1}, impl.Msg{Kind: 1, Amt: 1, Src: 1}) {
			b := guard(front, 77)
			first, _ := impl.MsgPut(b.arg, m)
			second, _ := impl.MsgPut(b.arg, m)
			apart(t, "MsgPut", 99, [][]byte{first, second}, b)
		}
	}
	empty := guard([]byte{}, 77)
	first, _ := impl.MsgPut(empty.arg, impl.Msg{Kind: 1, Amt: 5})
	second, _ := impl.MsgPut(empty.arg, impl.Msg{Kind: 3, Amt: 6})
	if !bytes.Equal(first, []byte{1, 0, 5, 0}) || !bytes.Equal(second, []byte{3, 0, 6, 0}) {
		t.Error("two results share memory")
	}
}

func TestP10MsgGetKeepsItsArgument(t *testing.T) {
	for _, m := range goodMsgs() {
		b := guard(slices.Concat([]byte{9}, rawMsg(m), []byte{128}), 77)
		for at := -1; at <= len(b.arg)+1; at++ {
			impl.MsgGet(b.arg, at)
		}
		b.unchanged(t, "MsgGet")
	}
}

// What lies in the spare capacity behind an argument is no part of a message.
func TestP10SpareCapacityIsNoMessage(t *testing.T) {
	for end := range 4 {
		b := guard([]byte{5, 0, 0, 0}[:end], 0)
		refusesMsg(t, "the bytes behind a slice", b.arg, 0)
		refusesMsg(t, "the bytes behind a slice", b.arg, end)
	}
	hidden := rawMsg(impl.Msg{Kind: impl.MgMark, Amt: 1})
	refusesMsg(t, "a message behind an empty slice", hidden[:0], 0)
	refusesMsg(t, "a message behind one byte", slices.Concat([]byte{4}, hidden)[:1], 1)
}
