package tests

import (
	"bytes"
	"encoding/binary"
	"math"
	"math/rand"
	"regexp"
	"slices"
	"strconv"
	"strings"
	"testing"

	"loop.example/g00801/impl"
)

// recRule is what the document says of one kind of record: the numbers it uses, in the order of its text, and the range of Amt.
type recRule struct {
	kind int
	name string
	uses string
	low  int
	high int
}

func recRules() []recRule {
	return []recRule{
		{1, "come", "acct amt", 1, 1000000000},
		{2, "went", "acct amt", 1, 1000000000},
		{3, "give", "acct to amt", 1, 1000000000},
		{4, "move", "acct other to amt", 1, 1000000000},
		{5, "took", "to amt msg", 1, 1125899906842624},
		{6, "heard", "to amt", 0, 1125899906842624},
		{7, "prom", "acct amt", 1, 1125899906842624},
		{8, "vote", "acct to amt", 1, 1125899906842624},
		{9, "shut", "acct to", 0, 0},
	}
}

func (u recRule) has(part string) bool { return slices.Contains(strings.Fields(u.uses), part) }

func within(n int, low int, high int, used bool) bool {
	if !used {
		return n == 0
	}
	return n >= low && n <= high
}

func (u recRule) allows(r impl.Rec) bool {
	good := within(r.Acct, 0, 2, u.has("acct")) && within(r.Other, 0, 2, u.has("other"))
	good = good && within(r.To, 0, 3, u.has("to")) && within(r.Amt, u.low, u.high, u.has("amt"))
	if !u.has("msg") {
		return good && r.M == impl.Msg{}
	}
	_, fine := ruleFor(r.M)
	return good && fine
}

// recRuleFor returns the rule that r keeps; there is none if r is not valid.
func recRuleFor(r impl.Rec) (recRule, bool) {
	for _, u := range recRules() {
		if u.kind == r.Kind {
			return u, u.allows(r)
		}
	}
	return recRule{}, false
}

// rawRec encodes a record by the document's words alone, also one that no function may write or read.
func rawRec(r impl.Rec) []byte {
	b := rawNums(r.Kind, r.Acct, r.Other, r.To, r.Amt)
	if r.Kind == impl.RkTook {
		return append(b, rawMsg(r.M)...)
	}
	return b
}

func msgWords(m impl.Msg) string {
	u, _ := ruleFor(m)
	return u.name + " " + strconv.Itoa(m.Acct) + " " + strconv.Itoa(m.Amt) + " " + strconv.Itoa(m.Src)
}

// rawText writes a record whose kind is known, whatever its numbers are.
func rawText(u recRule, r impl.Rec) string {
	parts := map[string]string{
		"acct":  strconv.Itoa(r.Acct),
		"other": strconv.Itoa(r.Other),
		"to":    strconv.Itoa(r.To),
		"amt":   strconv.Itoa(r.Amt),
		"msg":   msgWords(r.M),
	}
	words := []string{u.name}
	for _, part := range strings.Fields(u.uses) {
		words = append(words, parts[part])
	}
	return strings.Join(words, " ")
}

func recKinds() []int { return append([]int{0, 1, 2, 3, 4, 5, 6, 7, 8, 9, 10, 129, 261}, oddInts...) }

// recMsgs holds no message, valid ones of each kind, and others that have a field of a message without being one.
func recMsgs() []impl.Msg {
	return []impl.Msg{
		{},
		{Kind: impl.MgRights, Acct: 2, Amt: 1},
		{Kind: impl.MgCredit, Acct: 1, Amt: impl.MaxAmt, Src: 2},
		{Kind: impl.MgBounce, Amt: 300},
		{Kind: impl.MgMark},
		{Kind: impl.MgReport, Acct: 1, Amt: impl.MaxNum},
		{Kind: impl.MgReport},
		{Kind: impl.MgRights},
		{Kind: impl.MgMark, Amt: 4},
		{Kind: 6, Amt: 1},
		{Kind: -1},
		{Acct: 1},
		{Amt: 1},
		{Src: 1},
	}
}

func eachRecWith(kind int, m impl.Msg, check func(r impl.Rec)) {
	accts := []int{0, 1, 2, 3, -1, math.MinInt, math.MaxInt}
	nodes := []int{0, 1, 3, 4, -1, math.MinInt, math.MaxInt}
	amts := []int{0, 1, 2, 127, 128, impl.MaxAmt, impl.MaxAmt + 1, impl.MaxNum, impl.MaxNum + 1, -1, math.MinInt, math.MaxInt}
	for _, acct := range accts {
		for _, other := range accts {
			for _, to := range nodes {
				for _, amt := range amts {
					check(impl.Rec{Kind: kind, Acct: acct, Other: other, To: to, Amt: amt, M: m})
				}
			}
		}
	}
}

// eachRec runs a check on records of every kind and of none, valid or not.
func eachRec(check func(r impl.Rec)) {
	for _, kind := range recKinds() {
		for _, m := range recMsgs() {
			if kind >= 0 && kind <= 10 || m == (impl.Msg{}) {
				eachRecWith(kind, m, check)
			}
		}
	}
}

// goodRecs holds valid records of each kind, at the ends of all ranges and between them, and those that took any of goodMsgs.
func goodRecs() []impl.Rec {
	l := []impl.Rec{}
	eachRec(func(r impl.Rec) {
		if _, ok := recRuleFor(r); ok {
			l = append(l, r)
		}
	})
	for i, m := range goodMsgs() {
		l = append(l, impl.Rec{Kind: impl.RkTook, To: i % 4, Amt: 1 + i%300, M: m})
	}
	return l
}

// sampleRecs holds a few valid records of each kind.
func sampleRecs() []impl.Rec {
	return []impl.Rec{
		{Kind: impl.RkCome, Amt: 1},
		{Kind: impl.RkCome, Acct: 2, Amt: impl.MaxAmt},
		{Kind: impl.RkWent, Acct: 1, Amt: 300},
		{Kind: impl.RkGive, Acct: 2, To: 3, Amt: 128},
		{Kind: impl.RkMove, Acct: 1, Other: 2, To: 3, Amt: 77},
		{Kind: impl.RkMove, Acct: 1, Other: 1, Amt: impl.MaxAmt},
		{Kind: impl.RkTook, To: 1, Amt: 3, M: impl.Msg{Kind: impl.MgRights, Amt: 7}},
		{Kind: impl.RkTook, Amt: impl.MaxNum, M: impl.Msg{Kind: impl.MgCredit, Acct: 2, Amt: 300, Src: 1}},
		{Kind: impl.RkTook, To: 3, Amt: 1, M: impl.Msg{Kind: impl.MgBounce, Acct: 1, Amt: 1}},
		{Kind: impl.RkTook, To: 2, Amt: 128, M: impl.Msg{Kind: impl.MgMark, Acct: 1, Amt: 3}},
		{Kind: impl.RkTook, To: 2, Amt: 9, M: impl.Msg{Kind: impl.MgReport, Amt: impl.MaxNum}},
		{Kind: impl.RkHeard, To: 1},
		{Kind: impl.RkHeard, To: 3, Amt: impl.MaxNum},
		{Kind: impl.RkProm, Acct: 2, Amt: 9},
		{Kind: impl.RkVote, Acct: 1, To: 2, Amt: 500},
		{Kind: impl.RkShut},
		{Kind: impl.RkShut, Acct: 2, To: 3},
	}
}

func isRecOfBytes(t *testing.T, what string, b []byte, want impl.Rec) {
	t.Helper()
	if r, ok := impl.BytesRec(b); !ok || r != want {
		t.Errorf("%s: %v of %v is read as %v, %v", what, b, want, r, ok)
	}
}

func refusesRecBytes(t *testing.T, what string, b []byte) {
	t.Helper()
	if r, ok := impl.BytesRec(b); ok || r != (impl.Rec{}) {
		t.Errorf("%s: BytesRec(%v) = %v, %v", what, b, r, ok)
	}
}

func refusesRecText(t *testing.T, what string, s string) {
	t.Helper()
	if r, ok := impl.TextRec(s); ok || r != (impl.Rec{}) {
		t.Errorf("%s: TextRec(%q) = %v, %v", what, s, r, ok)
	}
}

func TestP10ConstantsOfRecords(t *testing.T) {
	got := []int{impl.RkCome, impl.RkWent, impl.RkGive, impl.RkMove, impl.RkTook, impl.RkHeard, impl.RkProm, impl.RkVote, impl.RkShut}
	if !slices.Equal(got, []int{1, 2, 3, 4, 5, 6, 7, 8, 9}) {
		t.Errorf("the constants of chapter 11 are %v", got)
	}
}

func TestP10RecOkExamples(t *testing.T) {
	m := impl.Msg{Kind: impl.MgRights, Amt: 7}
	for _, c := range []struct {
		r    impl.Rec
		want bool
	}{
		{impl.Rec{}, false},
		{impl.Rec{Amt: 1}, false},
		{impl.Rec{Kind: 10}, false},
		{impl.Rec{Kind: 10, Amt: 1}, false},
		{impl.Rec{Kind: -1, Amt: 1}, false},
		{impl.Rec{Kind: impl.RkCome}, false},
		{impl.Rec{Kind: impl.RkCome, Amt: 1}, true},
		{impl.Rec{Kind: impl.RkCome, Acct: impl.MaxAccts - 1, Amt: impl.MaxAmt}, true},
		{impl.Rec{Kind: impl.RkCome, Acct: impl.MaxAccts, Amt: 1}, false},
		{impl.Rec{Kind: impl.RkCome, Acct: -1, Amt: 1}, false},
		{impl.Rec{Kind: impl.RkCome, Amt: impl.MaxAmt + 1}, false},
		{impl.Rec{Kind: impl.RkCome, To: 1, Amt: 1}, false},
		{impl.Rec{Kind: impl.RkWent, Acct: 1, Amt: 5}, true},
		{impl.Rec{Kind: impl.RkWent, Acct: 1, Other: 1, Amt: 5}, false},
		{impl.Rec{Kind: impl.RkWent, Acct: 1, Amt: 5, M: m}, false},
		{impl.Rec{Kind: impl.RkGive, To: impl.MaxNodes - 1, Amt: 5}, true},
		{impl.Rec{Kind: impl.RkGive, To: impl.MaxNodes, Amt: 5}, false},
		{impl.Rec{Kind: impl.RkGive, To: -1, Amt: 5}, false},
		{impl.Rec{Kind: impl.RkGive, Other: 1, Amt: 5}, false},
		{impl.Rec{Kind: impl.RkMove, Acct: 2, Other: 2, To: 3, Amt: 5}, true},
		{impl.Rec{Kind: impl.RkMove, Other: impl.MaxAccts, Amt: 5}, false},
		{impl.Rec{Kind: impl.RkMove, Other: -1, Amt: 5}, false},
		{impl.Rec{Kind: impl.RkMove, Other: 1}, false},
		{impl.Rec{Kind: impl.RkTook, To: 1, Amt: 3, M: m}, true},
		{impl.Rec{Kind: impl.RkTook, Amt: impl.MaxNum, M: m}, true},
		{impl.Rec{Kind: impl.RkTook, Amt: impl.MaxNum + 1, M: m}, false},
		{impl.Rec{Kind: impl.RkTook, M: m}, false},
		{impl.Rec{Kind: impl.RkTook, Amt: 3}, false},
		{impl.Rec{Kind: impl.RkTook, Acct: 1, Amt: 3, M: m}, false},
		{impl.Rec{Kind: impl.RkTook, Amt: 3, M: impl.Msg{Kind: impl.MgRights}}, false},
		{impl.Rec{Kind: impl.RkHeard}, true},
		{impl.Rec{Kind: impl.RkHeard, To: 3, Amt: impl.MaxNum}, true},
		{impl.Rec{Kind: impl.RkHeard, Amt: -1}, false},
		{impl.Rec{Kind: impl.RkHeard, Amt: impl.MaxNum + 1}, false},
		{impl.Rec{Kind: impl.RkHeard, Acct: 1}, false},
		{impl.Rec{Kind: impl.RkProm, Acct: 2}, false},
		{impl.Rec{Kind: impl.RkProm, Acct: 2, Amt: 1}, true},
		{impl.Rec{Kind: impl.RkProm, Acct: 2, To: 1, Amt: 1}, false},
		{impl.Rec{Kind: impl.RkVote, Acct: 2, To: 3, Amt: impl.MaxNum}, true},
		{impl.Rec{Kind: impl.RkVote, Acct: 2, To: 3}, false},
		{impl.Rec{Kind: impl.RkVote, To: 4, Amt: 1}, false},
		{impl.Rec{Kind: impl.RkShut}, true},
		{impl.Rec{Kind: impl.RkShut, Acct: 2, To: 3}, true},
		{impl.Rec{Kind: impl.RkShut, Amt: 1}, false},
		{impl.Rec{Kind: impl.RkShut, M: impl.Msg{Src: 1}}, false},
	} {
		if impl.RecOk(c.r) != c.want {
			t.Errorf("RecOk(%v) is %v", c.r, !c.want)
		}
	}
}

func TestP10RecOkRanges(t *testing.T) {
	found := map[int]int{}
	eachRec(func(r impl.Rec) {
		_, want := recRuleFor(r)
		if impl.RecOk(r) != want {
			t.Errorf("RecOk(%v) is %v", r, !want)
		}
		if want {
			found[r.Kind]++
		}
	})
	for _, u := range recRules() {
		if found[u.kind] < 2 {
			t.Errorf("there are only %d valid records of kind %d", found[u.kind], u.kind)
		}
	}
}

// One field after the other takes every value, the others stay valid.
func TestP10RecOkEachField(t *testing.T) {
	for _, r := range sampleRecs() {
		changes := []func(r *impl.Rec, n int){
			func(r *impl.Rec, n int) { r.Kind = n },
			func(r *impl.Rec, n int) { r.Acct = n },
			func(r *impl.Rec, n int) { r.Other = n },
			func(r *impl.Rec, n int) { r.To = n },
			func(r *impl.Rec, n int) { r.Amt = n },
			func(r *impl.Rec, n int) { r.M.Kind = n },
			func(r *impl.Rec, n int) { r.M.Acct = n },
			func(r *impl.Rec, n int) { r.M.Amt = n },
			func(r *impl.Rec, n int) { r.M.Src = n },
		}
		for _, change := range changes {
			for _, n := range slices.Concat(recKinds(), amtSamples(), acctSamples()) {
				changed := r
				change(&changed, n)
				if _, want := recRuleFor(changed); impl.RecOk(changed) != want {
					t.Errorf("RecOk(%v) is %v", changed, !want)
				}
			}
		}
	}
}

func TestP10RecOkMessages(t *testing.T) {
	eachMsg(func(m impl.Msg) {
		_, want := ruleFor(m)
		if r := (impl.Rec{Kind: impl.RkTook, To: 2, Amt: 8, M: m}); impl.RecOk(r) != want {
			t.Errorf("RecOk(%v) is %v", r, !want)
		}
	})
}

// unusedFields returns r with one more field that is not zero, for each field that its kind does not use and each of several values.
func unusedFields(r impl.Rec) []impl.Rec {
	l := []impl.Rec{}
	u, _ := recRuleFor(r)
	for _, n := range append([]int{1, 2}, oddInts...) {
		for _, part := range []string{"acct", "other", "to", "amt"} {
			if !u.has(part) {
				changed := r
				*fieldOf(&changed, part) = n
				l = append(l, changed)
			}
		}
		if !u.has("msg") {
			for _, m := range []impl.Msg{{Kind: n}, {Acct: n}, {Amt: n}, {Src: n}, {Kind: impl.MgRights, Amt: n}} {
				changed := r
				changed.M = m
				l = append(l, changed)
			}
		}
	}
	return l
}

func TestP10UnusedFieldsAreRefused(t *testing.T) {
	for _, r := range sampleRecs() {
		for _, more := range unusedFields(r) {
			if impl.RecOk(more) {
				t.Errorf("%v is valid", more)
			}
			if b, ok := impl.RecBytes(more); b != nil || ok {
				t.Errorf("RecBytes(%v) = %v, %v", more, b, ok)
			}
			if s := impl.RecText(more); s != "" {
				t.Errorf("RecText(%v) = %q", more, s)
			}
			// A message in a record of another kind leaves no trace in these bytes; a test below appends it.
			if !bytes.Equal(rawRec(more), rawRec(r)) {
				refusesRecBytes(t, "an unused field", rawRec(more))
			}
		}
	}
}

func TestP10RecBytesExamples(t *testing.T) {
	for _, c := range []struct {
		r    impl.Rec
		want []byte
	}{
		{impl.Rec{Kind: impl.RkCome, Amt: 1}, []byte{1, 0, 0, 0, 1}},
		{impl.Rec{Kind: impl.RkWent, Acct: 2, Amt: 300}, []byte{2, 2, 0, 0, 172, 2}},
		{impl.Rec{Kind: impl.RkGive, Acct: 1, To: 3, Amt: 128}, []byte{3, 1, 0, 3, 128, 1}},
		{impl.Rec{Kind: impl.RkMove, Acct: 2, Other: 1, To: 3, Amt: impl.MaxAmt}, []byte{4, 2, 1, 3, 128, 148, 235, 220, 3}},
		{impl.Rec{Kind: impl.RkTook, To: 1, Amt: 3, M: impl.Msg{Kind: impl.MgRights, Amt: 7}}, []byte{5, 0, 0, 1, 3, 1, 0, 7, 0}},
		{impl.Rec{Kind: impl.RkTook, Amt: 200, M: impl.Msg{Kind: impl.MgCredit, Acct: 1, Amt: 300, Src: 2}}, []byte{5, 0, 0, 0, 200, 1, 2, 1, 172, 2, 2}},
		{impl.Rec{Kind: impl.RkHeard}, []byte{6, 0, 0, 0, 0}},
		{impl.Rec{Kind: impl.RkHeard, To: 2, Amt: impl.MaxNum}, []byte{6, 0, 0, 2, 128, 128, 128, 128, 128, 128, 128, 2}},
		{impl.Rec{Kind: impl.RkProm, Acct: 2, Amt: 9}, []byte{7, 2, 0, 0, 9}},
		{impl.Rec{Kind: impl.RkVote, Acct: 1, To: 2, Amt: 9}, []byte{8, 1, 0, 2, 9}},
		{impl.Rec{Kind: impl.RkShut, Acct: 2, To: 3}, []byte{9, 2, 0, 3, 0}},
	} {
		if got, ok := impl.RecBytes(c.r); !ok || !bytes.Equal(got, c.want) {
			t.Errorf("RecBytes(%v) = %v, %v", c.r, got, ok)
		}
		isRecOfBytes(t, "an example", c.want, c.r)
	}
}

func TestP10RecBytesRanges(t *testing.T) {
	eachRec(func(r impl.Rec) {
		got, ok := impl.RecBytes(r)
		_, good := recRuleFor(r)
		if !good && (got != nil || ok) {
			t.Errorf("RecBytes(%v) = %v, %v", r, got, ok)
		}
		if good && (!ok || !bytes.Equal(got, rawRec(r))) {
			t.Errorf("RecBytes(%v) = %v, %v", r, got, ok)
		}
	})
}

func TestP6RecordEncoding(t *testing.T) {
	seen := map[string]impl.Rec{}
	for _, r := range goodRecs() {
		b, ok := impl.RecBytes(r)
		if !ok {
			t.Fatalf("RecBytes refuses %v", r)
		}
		isRecOfBytes(t, "an encoding", b, r)
		if other, ok := seen[string(b)]; ok && other != r {
			t.Errorf("%v and %v are both %v", r, other, b)
		}
		seen[string(b)] = r
	}
}

// The bytes of a record are a record only if the record is valid.
func TestP6BytesRecRanges(t *testing.T) {
	eachRec(func(r impl.Rec) {
		if r.Kind != impl.RkTook {
			r.M = impl.Msg{}
		}
		if _, ok := recRuleFor(r); ok {
			isRecOfBytes(t, "a valid record", rawRec(r), r)
			return
		}
		refusesRecBytes(t, "a record that is not valid", rawRec(r))
	})
}

func TestP10CutRecordsAreRefused(t *testing.T) {
	refusesRecBytes(t, "nil", nil)
	refusesRecBytes(t, "no bytes", []byte{})
	for _, r := range goodRecs() {
		b := rawRec(r)
		for end := range len(b) {
			refusesRecBytes(t, "a cut record", b[:end])
			refusesRecBytes(t, "a cut record without more behind it", slices.Clone(b[:end]))
		}
		for start := 1; start <= len(b); start++ {
			if _, ok := recModel(b[start:]); !ok {
				refusesRecBytes(t, "a record without its first bytes", b[start:])
			}
		}
	}
}

func TestP10LongerRecordsAreRefused(t *testing.T) {
	for _, r := range goodRecs() {
		b := rawRec(r)
		for c := range 256 {
			refusesRecBytes(t, "a byte behind a record", append(slices.Clone(b), byte(c)))
		}
		refusesRecBytes(t, "a record behind a record", append(slices.Clone(b), b...))
		refusesRecBytes(t, "a byte in front of a record", append([]byte{0}, b...))
		for _, m := range recMsgs() {
			if m.Kind >= 0 {
				refusesRecBytes(t, "a message behind a record", append(slices.Clone(b), rawMsg(m)...))
			}
		}
	}
}

func TestP10RecordsNeedTheirMessage(t *testing.T) {
	for _, r := range sampleRecs() {
		if r.Kind == impl.RkTook {
			b := rawNums(r.Kind, r.Acct, r.Other, r.To, r.Amt)
			refusesRecBytes(t, "no message", b)
			for _, m := range badMsgs() {
				if bad := rawMsg(m); !bytes.Equal(bad, rawMsg(r.M)) {
					refusesRecBytes(t, "a message that is not valid", append(slices.Clone(b), bad...))
				}
			}
		}
	}
}

func TestP10LongNumbersInRecordsAreRefused(t *testing.T) {
	for _, r := range goodRecs() {
		nums := []int{r.Kind, r.Acct, r.Other, r.To, r.Amt}
		if r.Kind == impl.RkTook {
			nums = append(nums, r.M.Kind, r.M.Acct, r.M.Amt, r.M.Src)
		}
		isRecOfBytes(t, "numbers as short as they can be", padded(nums, -1), r)
		for which := range nums {
			refusesRecBytes(t, "a number that is too long", padded(nums, which))
		}
	}
}

// recModel looks for the record of which b is the encoding.
func recModel(b []byte) (impl.Rec, bool) {
	nums := []int{}
	for len(b) > 0 {
		n, size := binary.Uvarint(b)
		if size <= 0 || n > impl.MaxNum || !bytes.Equal(rawNums(int(n)), b[:size]) {
			return impl.Rec{}, false
		}
		nums = append(nums, int(n))
		b = b[size:]
	}
	if len(nums) != 5 && len(nums) != 9 {
		return impl.Rec{}, false
	}
	r := impl.Rec{Kind: nums[0], Acct: nums[1], Other: nums[2], To: nums[3], Amt: nums[4]}
	if len(nums) == 9 {
		r.M = impl.Msg{Kind: nums[5], Acct: nums[6], Amt: nums[7], Src: nums[8]}
	}
	_, ok := recRuleFor(r)
	if !ok || (len(nums) == 9) != (r.Kind == impl.RkTook) {
		return impl.Rec{}, false
	}
	return r, true
}

// agreesOnBytes reports whether b is a record, and checks that BytesRec says so.
func agreesOnBytes(t *testing.T, b []byte) bool {
	t.Helper()
	want, ok := recModel(b)
	if !ok {
		refusesRecBytes(t, "any bytes", b)
		return false
	}
	isRecOfBytes(t, "any bytes", b, want)
	if again, fine := impl.RecBytes(want); !fine || !bytes.Equal(again, b) {
		t.Errorf("%v is the record of %v, but its encoding is %v, %v", want, b, again, fine)
	}
	return true
}

// Every string of up to six of these bytes is read as the document says.
func TestP6ShortBytesAsRecords(t *testing.T) {
	letters := []byte{0, 1, 2, 3, 4, 5, 7, 9, 10, 128}
	found := 0
	for size, count := 0, 1; size <= 6; size, count = size+1, count*len(letters) {
		for i := range count {
			b := []byte{}
			for range size {
				b = append(b, letters[i%len(letters)])
				i /= len(letters)
			}
			if agreesOnBytes(t, b) {
				found++
			}
		}
	}
	if found < 500 {
		t.Errorf("only %d records were among the bytes", found)
	}
}

func TestP6AnyBytesAsRecords(t *testing.T) {
	r := rand.New(rand.NewSource(10))
	all := goodRecs()
	found := 0
	for range 100000 {
		b := rawRec(all[r.Intn(len(all))])
		for range r.Intn(3) {
			switch i := r.Intn(len(b)); r.Intn(3) {
			case 0:
				b[i] = byte([]int{0, 1, 2, 3, 4, 5, 127, 128, 129, 255, r.Intn(256)}[r.Intn(11)])
			case 1:
				b = slices.Insert(b, i, byte(r.Intn(256)))
			default:
				b = append(slices.Delete(b, i, i+1), byte(r.Intn(3)))
			}
		}
		if agreesOnBytes(t, b) {
			found++
		}
	}
	if found < 30000 || found > 90000 {
		t.Errorf("%d records were among the bytes", found)
	}
}

func TestP10RkName(t *testing.T) {
	for k, want := range map[int]string{impl.RkCome: "come", impl.RkWent: "went", impl.RkGive: "give", impl.RkMove: "move", impl.RkTook: "took", impl.RkHeard: "heard", impl.RkProm: "prom", impl.RkVote: "vote", impl.RkShut: "shut"} {
		if got := impl.RkName(k); got != want {
			t.Errorf("RkName(%d) = %q", k, got)
		}
	}
	for _, k := range slices.Concat(recKinds(), []int{-9, -5, 11, 99, 256, 257, 1<<32 + 1, math.MinInt + 1}) {
		if got := impl.RkName(k); (k < 1 || k > 9) && got != "" {
			t.Errorf("RkName(%d) = %q", k, got)
		}
	}
}

func TestP6RecTextExamples(t *testing.T) {
	for want, r := range map[string]impl.Rec{
		"come 0 1":                              {Kind: impl.RkCome, Amt: 1},
		"went 2 1000000000":                     {Kind: impl.RkWent, Acct: 2, Amt: impl.MaxAmt},
		"give 1 3 300":                          {Kind: impl.RkGive, Acct: 1, To: 3, Amt: 300},
		"move 2 1 3 5":                          {Kind: impl.RkMove, Acct: 2, Other: 1, To: 3, Amt: 5},
		"took 1 3 rights 0 7 0":                 {Kind: impl.RkTook, To: 1, Amt: 3, M: impl.Msg{Kind: impl.MgRights, Amt: 7}},
		"took 0 1125899906842624 credit 1 30 2": {Kind: impl.RkTook, Amt: impl.MaxNum, M: impl.Msg{Kind: impl.MgCredit, Acct: 1, Amt: 30, Src: 2}},
		"took 3 1 bounce 2 9 0":                 {Kind: impl.RkTook, To: 3, Amt: 1, M: impl.Msg{Kind: impl.MgBounce, Acct: 2, Amt: 9}},
		"took 2 4 mark 1 3 0":                   {Kind: impl.RkTook, To: 2, Amt: 4, M: impl.Msg{Kind: impl.MgMark, Acct: 1, Amt: 3}},
		"took 2 5 report 0 0 0":                 {Kind: impl.RkTook, To: 2, Amt: 5, M: impl.Msg{Kind: impl.MgReport}},
		"heard 3 0":                             {Kind: impl.RkHeard, To: 3},
		"heard 0 1125899906842624":              {Kind: impl.RkHeard, Amt: impl.MaxNum},
		"prom 2 9":                              {Kind: impl.RkProm, Acct: 2, Amt: 9},
		"vote 2 1 9":                            {Kind: impl.RkVote, Acct: 2, To: 1, Amt: 9},
		"shut 0 0":                              {Kind: impl.RkShut},
		"shut 2 3":                              {Kind: impl.RkShut, Acct: 2, To: 3},
	} {
		if got := impl.RecText(r); got != want {
			t.Errorf("RecText(%v) = %q", r, got)
		}
		if got, ok := impl.TextRec(want); !ok || got != r {
			t.Errorf("TextRec(%q) = %v, %v", want, got, ok)
		}
	}
}

func TestP10RecTextRanges(t *testing.T) {
	eachRec(func(r impl.Rec) {
		want := ""
		if u, ok := recRuleFor(r); ok {
			want = rawText(u, r)
		}
		if got := impl.RecText(r); got != want {
			t.Errorf("RecText(%v) = %q", r, got)
		}
	})
}

func TestP6RecordText(t *testing.T) {
	seen := map[string]impl.Rec{}
	for _, r := range goodRecs() {
		s := impl.RecText(r)
		if got, ok := impl.TextRec(s); !ok || got != r {
			t.Errorf("%v is %q, which is read as %v, %v", r, s, got, ok)
		}
		if other, ok := seen[s]; ok && other != r {
			t.Errorf("%v and %v are both %q", r, other, s)
		}
		seen[s] = r
	}
}

func fieldOf(r *impl.Rec, part string) *int {
	switch part {
	case "acct":
		return &r.Acct
	case "other":
		return &r.Other
	case "to":
		return &r.To
	}
	return &r.Amt
}

// inText returns r without what its text does not hold.
func inText(u recRule, r impl.Rec) impl.Rec {
	for _, part := range []string{"acct", "other", "to", "amt"} {
		if !u.has(part) {
			*fieldOf(&r, part) = 0
		}
	}
	if !u.has("msg") {
		r.M = impl.Msg{}
	}
	return r
}

// The text of a record whose numbers are not allowed is no record.
func TestP6TextRecRanges(t *testing.T) {
	eachRec(func(r impl.Rec) {
		for _, u := range recRules() {
			_, fine := ruleFor(r.M)
			if u.kind != r.Kind || u.has("msg") && !fine {
				continue
			}
			used := inText(u, r)
			got, ok := impl.TextRec(rawText(u, r))
			want := u.allows(used)
			if ok != want || want && got != used || !want && got != (impl.Rec{}) {
				t.Errorf("TextRec(%q) = %v, %v", rawText(u, r), got, ok)
			}
		}
	})
}

// textModels say what the text of each kind looks like.
func textModels() map[int]*regexp.Regexp {
	num := ` (0|[1-9][0-9]{0,15})`
	l := map[int]*regexp.Regexp{}
	for _, u := range recRules() {
		form := u.name
		for _, part := range strings.Fields(u.uses) {
			if part == "msg" {
				form += ` (rights|credit|bounce|mark|report)` + num + num + num
			} else {
				form += num
			}
		}
		l[u.kind] = regexp.MustCompile(`\A` + form + `\z`)
	}
	return l
}

func textModel(forms map[int]*regexp.Regexp, s string) (impl.Rec, bool) {
	for _, u := range recRules() {
		words := forms[u.kind].FindStringSubmatch(s)
		if words == nil {
			continue
		}
		number := func(i int) int { n, _ := strconv.Atoi(words[i]); return n }
		r := impl.Rec{Kind: u.kind}
		for i, part := range strings.Fields(u.uses) {
			if part != "msg" {
				*fieldOf(&r, part) = number(i + 1)
				continue
			}
			kind := slices.IndexFunc(msgRules(), func(m msgRule) bool { return m.name == words[i+1] }) + 1
			r.M = impl.Msg{Kind: kind, Acct: number(i + 2), Amt: number(i + 3), Src: number(i + 4)}
		}
		if u.allows(r) {
			return r, true
		}
		return impl.Rec{}, false
	}
	return impl.Rec{}, false
}

// agreesOnText reports whether s is a record, and checks that TextRec says so.
func agreesOnText(t *testing.T, forms map[int]*regexp.Regexp, s string) bool {
	t.Helper()
	want, ok := textModel(forms, s)
	if !ok {
		refusesRecText(t, "any text", s)
		return false
	}
	if got, fine := impl.TextRec(s); !fine || got != want {
		t.Errorf("TextRec(%q) = %v, %v", s, got, fine)
	}
	if again := impl.RecText(want); again != s {
		t.Errorf("%v is the record of %q, but its text is %q", want, s, again)
	}
	return true
}

func TestP10TextRecRefuses(t *testing.T) {
	for _, s := range []string{
		"", " ", "  ", "0", "1", "9", "-", "\n", "\x00", "come", "shut", "took", "heard",
		"come 0", "come 0 0", "come 3 1", "come 0 1000000001", "come 0 1 0", "come 0 1 ", " come 0 1", "come  0 1", "come 0  1",
		"come\t0 1", "come 0\t1", "come 0 1\n", "come 0 1\r", "come 0 1\x00", "\ufeffcome 0 1", "come\u00a00 1",
		"Come 0 1", "COME 0 1", "comes 0 1", "com 0 1", "1 0 1", "come0 1", "come 01 1", "come 00 1", "come 0 01", "come 0 +1", "come 0 -1", "come -0 1", "come +0 1",
		"come 0 1.0", "come 0 1e3", "come 0 0x1", "come 0 1_0", "come 0 a", "come a 1", "come 0 \u0661", "come 0 \uff11", "come 0 1\xff", "come 0 ", "come  1",
		"come 0 9223372036854775808", "come 0 18446744073709551617", "come 18446744073709551616 1", "come 0 99999999999999999999999999",
		"went 0", "went 0 0", "went 0 1 1", "give 0 1", "give 0 4 1", "give 3 0 1", "give 0 1 0", "give 0 1 2 3",
		"move 0 1 2", "move 0 1 2 0", "move 3 1 2 5", "move 0 3 2 5", "move 0 1 4 5", "move 0 1 2 5 0",
		"heard 1", "heard 4 0", "heard 0 1125899906842625", "heard 0 0 0", "prom 0", "prom 0 0", "prom 3 1", "prom 0 1125899906842625", "prom 0 0 1",
		"vote 0 1", "vote 0 1 0", "vote 0 4 1", "vote 3 1 1", "vote 0 1 1125899906842625", "shut 0", "shut 3 0", "shut 0 4", "shut 0 0 0", "shut 0 0 1",
		"took 1 3", "took 1 3 ", "took 1 rights 0 7 0", "took 1 3 rights", "took 1 3 rights 0 7", "took 1 3 rights 0 7 0 0", "took 1 3 rights 0 7 0 rights 0 7 0",
		"took 1 0 rights 0 7 0", "took 4 3 rights 0 7 0", "took 1 3 rights 0 0 0", "took 1 3 rights 3 7 0", "took 1 3 rights 0 7 1", "took 1 3 credit 0 7 3",
		"took 1 3 mark 0 4 0", "took 1 3 report 0 1125899906842625 0", "took 1 3 1 0 7 0", "took 1 3  0 7 0", "took 1 3 0 7 0", "took 1 3 Rights 0 7 0",
		"took 1 3 come 0 7", "took 1 3 come 0 7 0", "took 1 3 took 0 7 0", "took 1 3 prom 0 7 0", "took 1 3  rights 0 7 0", "took 1 3 rights  0 7 0", "took rights 0 7 0 1 3",
		"rights 0 7 0", "credit 0 7 1", "mark 0 1 0", "come 0 7 rights 0 7 0", "heard 1 3 rights 0 7 0", "heard 1 3 report 0 0 0", "shut 0 1 mark 0 1 0",
		" 0 1", "  0 1", " 0 1 2 3", "  0 7 0", "ack 0 1", "come,0,1", "0 1 come", "0 come 1",
	} {
		refusesRecText(t, "no record", s)
	}
}

// The words of one kind are followed by the parts of another.
func TestP6WordsWithOtherParts(t *testing.T) {
	forms := textModels()
	words := []string{"", "come ", "Come", "0", "rights", "credit", "bounce", "mark", "report"}
	for _, u := range recRules() {
		words = append(words, u.name)
	}
	found := 0
	for _, r := range sampleRecs() {
		u, _ := recRuleFor(r)
		_, parts, _ := strings.Cut(rawText(u, r), " ")
		for _, word := range words {
			if agreesOnText(t, forms, word+" "+parts) {
				found++
			}
			agreesOnText(t, forms, word)
			agreesOnText(t, forms, word+parts)
		}
	}
	if found < 30 {
		t.Errorf("only %d records were among the texts", found)
	}
}

// strange holds words that are nowhere allowed, and numbers that are allowed at some places only.
func strange() []string {
	return []string{
		"", " ", "0", "1", "2", "3", "4", "00", "01", "0007", "+1", "-1", "-0", "1 ", " 1", "1.", "1e1", "0x1", "1,000", "a", "1a", "a1", "\t1", "1\n", "\x00", "\u0661", "\uff11", "\u00b9", "\xff",
		"1000000000", "1000000001", "1125899906842624", "1125899906842625", "4294967296", "4294967297", "9223372036854775807", "9223372036854775808", "18446744073709551616", "18446744073709551617", strings.Repeat("9", 400), strings.Repeat("0", 400) + "1",
		"come", "went", "give", "move", "took", "heard", "prom", "vote", "shut", "rights", "credit", "bounce", "mark", "report", "Took", "rightss", "right",
	}
}

func TestP6ChangedTexts(t *testing.T) {
	forms := textModels()
	found := 0
	for _, r := range sampleRecs() {
		u, _ := recRuleFor(r)
		words := strings.Split(rawText(u, r), " ")
		for i := range words {
			texts := [][]string{slices.Delete(slices.Clone(words), i, i+1), words[:i], words[i:]}
			for _, word := range append(strange(), words...) {
				texts = append(texts, slices.Insert(slices.Clone(words), i, word), slices.Replace(slices.Clone(words), i, i+1, word))
			}
			for j := range i {
				swapped := slices.Clone(words)
				swapped[i], swapped[j] = swapped[j], swapped[i]
				texts = append(texts, swapped)
			}
			for _, text := range texts {
				if agreesOnText(t, forms, strings.Join(text, " ")) {
					found++
				}
			}
		}
		for _, word := range strange() {
			agreesOnText(t, forms, strings.Join(append(slices.Clone(words), word), " "))
		}
	}
	if found < 300 {
		t.Errorf("only %d records were among the texts", found)
	}
}

func TestP6TextsWithOtherSpaces(t *testing.T) {
	for _, r := range sampleRecs() {
		u, _ := recRuleFor(r)
		s := rawText(u, r)
		for _, space := range []string{" ", "  ", "\t", "\n", "\r\n", "\v", "\u00a0", "\u2003", "\x00", ",", "\xff"} {
			refusesRecText(t, "in front", space+s)
			refusesRecText(t, "at the end", s+space)
			for i, c := range s {
				if c == ' ' {
					refusesRecText(t, "doubled", s[:i]+" "+space+s[i+1:])
					refusesRecText(t, "doubled", s[:i]+space+s[i:])
				}
				if c == ' ' && space != " " {
					refusesRecText(t, "another space", s[:i]+space+s[i+1:])
				}
			}
		}
		refusesRecText(t, "no spaces", strings.ReplaceAll(s, " ", ""))
		refusesRecText(t, "twice", s+" "+s)
		refusesRecText(t, "two lines", s+"\n"+s)
		refusesRecText(t, "capitals", strings.ToUpper(s))
	}
}

// Any changed byte gives another record or none, as the document says.
func TestP6TextsWithOneOtherByte(t *testing.T) {
	forms := textModels()
	for _, r := range sampleRecs() {
		u, _ := recRuleFor(r)
		s := rawText(u, r)
		for i := range s {
			for c := range 256 {
				agreesOnText(t, forms, s[:i]+string([]byte{byte(c)})+s[i+1:])
				agreesOnText(t, forms, s[:i]+string([]byte{byte(c)})+s[i:])
			}
			agreesOnText(t, forms, s[:i]+s[i+1:])
			agreesOnText(t, forms, s[:i])
			agreesOnText(t, forms, s[i:])
		}
	}
}

func TestP6AnyWordsAsRecords(t *testing.T) {
	forms := textModels()
	r := rand.New(rand.NewSource(11))
	numbers := []string{"0", "1", "2", "3", "4", "9", "300", "1000000000", "1000000001", "1125899906842624", "1125899906842625", "", "01"}
	found := 0
	for range 60000 {
		words := []string{recRules()[r.Intn(9)].name}
		for range 1 + r.Intn(4) {
			words = append(words, numbers[r.Intn(2+r.Intn(len(numbers)-1))])
		}
		if r.Intn(4) == 0 {
			words = append(words, msgRules()[r.Intn(5)].name)
			for range 2 + r.Intn(3) {
				words = append(words, numbers[r.Intn(2+r.Intn(len(numbers)-1))])
			}
		}
		if agreesOnText(t, forms, strings.Join(words, " ")) {
			found++
		}
	}
	if found < 3000 {
		t.Errorf("only %d records were among the texts", found)
	}
}

func TestP10RecBytesResultsAreNewMemory(t *testing.T) {
	for _, r := range append(sampleRecs(), impl.Rec{}, impl.Rec{Kind: impl.RkTook, Amt: 1}, impl.Rec{Kind: impl.RkShut, Amt: 1}) {
		first, _ := impl.RecBytes(r)
		second, _ := impl.RecBytes(r)
		want := slices.Clone(second)
		apart(t, "RecBytes", 99, [][]byte{first, second})
		if third, _ := impl.RecBytes(r); !bytes.Equal(third, want) {
			t.Errorf("RecBytes(%v) = %v after the earlier results were overwritten", r, third)
		}
	}
}

func TestP10BytesRecKeepsItsArgument(t *testing.T) {
	for _, r := range goodRecs() {
		for _, back := range [][]byte{nil, {0}, {128}, {1, 2, 3}} {
			b := guard(slices.Concat(rawRec(r), back), 77)
			impl.BytesRec(b.arg)
			b.unchanged(t, "BytesRec")
			for end := range len(b.arg) {
				impl.BytesRec(b.arg[:end])
			}
			b.unchanged(t, "BytesRec of less")
		}
	}
}

// What lies in the spare capacity behind an argument is no part of a record.
func TestP10SpareCapacityIsNoRecord(t *testing.T) {
	for _, r := range sampleRecs() {
		b := guard(rawRec(r), 0)
		isRecOfBytes(t, "in front of spare capacity", b.arg, r)
		for end := range len(b.arg) {
			refusesRecBytes(t, "the bytes behind a slice", b.arg[:end])
		}
	}
}

// The results are the same however often the functions are called.
func TestP10RecordsKeepNoState(t *testing.T) {
	all := append(sampleRecs(), impl.Rec{}, impl.Rec{Kind: 10}, impl.Rec{Kind: impl.RkTook, Amt: 1})
	for range 3 {
		for _, r := range all {
			u, ok := recRuleFor(r)
			want := ""
			if ok {
				want = rawText(u, r)
			}
			if impl.RecOk(r) != ok || impl.RecText(r) != want {
				t.Errorf("%v: RecOk is %v, RecText is %q", r, impl.RecOk(r), impl.RecText(r))
			}
			agreesOnBytes(t, rawRec(r))
			impl.TextRec(want + " 0")
		}
	}
}
