package tests

import (
	"bytes"
	"hash/crc32"
	"math"
	"math/rand"
	"slices"
	"strconv"
	"strings"
	"testing"
	"unsafe"

	"loop.example/g00801/impl"
)

// numberSamples holds every number at which the encoding or the text changes its length, and the neighbours of it.
func numberSamples() []int {
	l := []int{0, 1, 300, impl.MaxAmt, impl.MaxNum}
	for shift := 7; shift <= 49; shift += 7 {
		l = append(l, 1<<shift-1, 1<<shift, 1<<shift+1)
	}
	for p := 10; p < impl.MaxNum; p *= 10 {
		l = append(l, p-1, p, p+1)
	}
	r := rand.New(rand.NewSource(1))
	for range 2000 {
		l = append(l, r.Intn(impl.MaxNum+1)>>r.Intn(51))
	}
	return l
}

func TestP10ConstantsOfNumbers(t *testing.T) {
	if impl.MaxNum != 1<<50 || impl.MaxAmt != 1000000000 || impl.MaxNodes != 4 || impl.MaxAccts != 3 {
		t.Error("a constant of chapter 2 is wrong")
	}
}

func TestP10PutNumBytes(t *testing.T) {
	for _, c := range []struct {
		n    int
		want []byte
	}{
		{0, []byte{0}},
		{1, []byte{1}},
		{127, []byte{127}},
		{128, []byte{128, 1}},
		{300, []byte{172, 2}},
		{16383, []byte{255, 127}},
		{16384, []byte{128, 128, 1}},
		{impl.MaxAmt, []byte{128, 148, 235, 220, 3}},
		{impl.MaxNum - 1, []byte{255, 255, 255, 255, 255, 255, 255, 1}},
		{impl.MaxNum, []byte{128, 128, 128, 128, 128, 128, 128, 2}},
	} {
		for _, front := range [][]byte{nil, {}, {7}, {0, 200, 9}} {
			got, ok := impl.PutNum(front, c.n)
			if !ok || !bytes.Equal(got, append(slices.Clone(front), c.want...)) {
				t.Errorf("PutNum(%v, %d) = %v, %v", front, c.n, got, ok)
			}
		}
	}
}

func TestP10PutNumRefuses(t *testing.T) {
	for _, n := range oddInts {
		if got, ok := impl.PutNum([]byte{1, 2}, n); got != nil || ok {
			t.Errorf("PutNum of %d = %v, %v", n, got, ok)
		}
	}
}

func TestP6NumberEncoding(t *testing.T) {
	for _, n := range numberSamples() {
		b, ok := impl.PutNum([]byte{128, 0, 9}, n)
		if !ok {
			t.Fatalf("PutNum refuses %d", n)
		}
		if got, next, ok := impl.GetNum(append(b, 128, 5), 3); !ok || got != n || next != len(b) {
			t.Errorf("%d is read back as %d, %d, %v", n, got, next, ok)
		}
	}
}

func refusesNum(t *testing.T, b []byte, at int) {
	t.Helper()
	if n, next, ok := impl.GetNum(b, at); n != 0 || next != 0 || ok {
		t.Errorf("GetNum(%v, %d) = %d, %d, %v", b, at, n, next, ok)
	}
}

func TestP10GetNumRefuses(t *testing.T) {
	refusesNum(t, nil, 0)
	refusesNum(t, []byte{}, 0)
	for _, at := range append([]int{3, 4}, oddInts...) {
		refusesNum(t, []byte{1, 2, 3}, at)
	}
	for _, b := range [][]byte{
		{128}, {255, 255}, {1, 128}, // truncated at the end
		{128, 0}, {255, 0}, {129, 128, 0}, {128, 128, 128, 128, 128, 128, 128, 0}, // a last byte of 0
		{129, 128, 128, 128, 128, 128, 128, 2}, // MaxNum + 1
		{128, 128, 128, 128, 128, 128, 128, 3},
		{255, 255, 255, 255, 255, 255, 255, 127},
		{128, 128, 128, 128, 128, 128, 128, 128, 1},       // 2 to the 56th
		{128, 128, 128, 128, 128, 128, 128, 128, 128, 2},  // overflows to 0
		{133, 128, 128, 128, 128, 128, 128, 128, 128, 2},  // overflows to 5
		{133, 128, 128, 128, 128, 128, 128, 128, 128, 0},  // more groups, a last byte of 0
		{255, 255, 255, 255, 255, 255, 255, 255, 255, 1},  // all 64 bits set
		bytes.Repeat([]byte{255}, 300),                    // no end
		append(bytes.Repeat([]byte{128}, 70), 1, 2, 3, 4), // far too long
	} {
		if b[0] == 1 {
			refusesNum(t, b, 1)
		} else {
			refusesNum(t, b, 0)
		}
	}
}

// Each accepted encoding is the one that PutNum produces.
func TestP10GetNumAcceptsOnlyPutNum(t *testing.T) {
	r := rand.New(rand.NewSource(2))
	for range 20000 {
		b := make([]byte, r.Intn(11))
		for i := range b {
			b[i] = byte([]int{0, 1, 2, 127, 128, 129, 255, r.Intn(256)}[r.Intn(8)])
		}
		at := r.Intn(12) - 1
		n, next, ok := impl.GetNum(b, at)
		if !ok {
			refusesNum(t, b, at)
			continue
		}
		want, good := impl.PutNum(nil, n)
		if !good || next > len(b) || !bytes.Equal(want, b[at:next]) {
			t.Fatalf("GetNum(%v, %d) = %d, %d", b, at, n, next)
		}
	}
}

func TestP10PutNumsBytes(t *testing.T) {
	for _, c := range []struct {
		l    []int
		want []byte
	}{
		{nil, []byte{0}},
		{[]int{}, []byte{0}},
		{[]int{0}, []byte{1, 0}},
		{[]int{5, 300}, []byte{2, 5, 172, 2}},
		{[]int{impl.MaxNum}, []byte{1, 128, 128, 128, 128, 128, 128, 128, 2}},
		{make([]int, 128), append([]byte{128, 1}, make([]byte, 128)...)},
	} {
		for _, front := range [][]byte{nil, {}, {3, 4}} {
			got, ok := impl.PutNums(front, c.l)
			if !ok || !bytes.Equal(got, append(slices.Clone(front), c.want...)) {
				t.Errorf("PutNums(%v, %v) = %v, %v", front, c.l, got, ok)
			}
		}
	}
}

func TestP10PutNumsRefuses(t *testing.T) {
	for _, n := range oddInts {
		for _, l := range [][]int{{n}, {n, 1}, {1, n, 2}, {1, 2, n}} {
			if got, ok := impl.PutNums([]byte{1}, l); got != nil || ok {
				t.Errorf("PutNums of %v = %v, %v", l, got, ok)
			}
		}
	}
}

func TestP6ListEncoding(t *testing.T) {
	all := numberSamples()
	for _, size := range []int{0, 1, 2, 3, 127, 128, 129, len(all)} {
		l := all[:size]
		b, ok := impl.PutNums([]byte{255, 128}, l)
		if !ok {
			t.Fatalf("PutNums refuses %d elements", size)
		}
		for _, most := range []int{size, size + 1, math.MaxInt} {
			got, next, ok := impl.GetNums(append(slices.Clone(b), 1), 2, most)
			if !ok || !slices.Equal(got, l) || next != len(b) {
				t.Errorf("%d elements of at most %d are read back as %v, %d, %v", size, most, got, next, ok)
			}
		}
	}
}

func refusesNums(t *testing.T, b []byte, at int, most int) {
	t.Helper()
	if l, next, ok := impl.GetNums(b, at, most); len(l) != 0 || next != 0 || ok {
		t.Errorf("GetNums(%v, %d, %d) = %v, %d, %v", b, at, most, l, next, ok)
	}
}

func TestP10GetNumsRefuses(t *testing.T) {
	list := []byte{2, 5, 172, 2}
	for _, most := range []int{math.MinInt, -1, 0, 1} {
		refusesNums(t, list, 0, most)
	}
	refusesNums(t, []byte{0}, 0, -1)
	refusesNums(t, []byte{0}, 0, math.MinInt)
	for _, at := range append([]int{4, 5}, oddInts...) {
		refusesNums(t, list, at, 9)
	}
	for end := range list {
		refusesNums(t, list[:end], 0, 9)
	}
	refusesNums(t, nil, 0, 9)
	refusesNums(t, []byte{128, 0}, 0, 9)                                         // an invalid length
	refusesNums(t, []byte{2, 1, 128, 0}, 0, 9)                                   // an invalid element
	refusesNums(t, []byte{1, 129, 128, 128, 128, 128, 128, 128, 2}, 0, 9)        // MaxNum + 1
	refusesNums(t, []byte{128, 128, 128, 128, 128, 128, 128, 2, 1, 1}, 0, 1<<62) // MaxNum elements announced
}

func TestP10EmptyListIsRead(t *testing.T) {
	for _, most := range []int{0, 1, math.MaxInt} {
		if l, next, ok := impl.GetNums([]byte{9, 0}, 1, most); len(l) != 0 || next != 2 || !ok {
			t.Errorf("the empty list is read as %v, %d, %v", l, next, ok)
		}
	}
}

func TestP10NumText(t *testing.T) {
	for n, want := range map[int]string{0: "0", 7: "7", 10: "10", impl.MaxAmt: "1000000000", impl.MaxNum: "1125899906842624"} {
		if got := impl.NumText(n); got != want {
			t.Errorf("NumText(%d) = %q", n, got)
		}
	}
	for _, n := range oddInts {
		if got := impl.NumText(n); got != "" {
			t.Errorf("NumText(%d) = %q", n, got)
		}
	}
}

func TestP6NumberText(t *testing.T) {
	for _, n := range numberSamples() {
		s := impl.NumText(n)
		if s != strconv.Itoa(n) {
			t.Errorf("NumText(%d) = %q", n, s)
		}
		if got, ok := impl.TextNum(s); got != n || !ok {
			t.Errorf("TextNum(%q) = %d, %v", s, got, ok)
		}
	}
}

func TestP10TextNumRefuses(t *testing.T) {
	for _, s := range []string{
		"", " ", "00", "01", "007", "-1", "-0", "+1", "1 ", " 1", "1\n", "1.0", "1e3", "0x1", "1_0", "a", "1a", "a1",
		"/", ":", "1/", "1:", "\x00", "1\x00", "\xff", "1\xff", "\xb1", "٣", "１", "1٣",
		"1125899906842625", "2000000000000000", "11258999068426240", "9223372036854775807", "9223372036854775808",
		"18446744073709551616", "18446744073709551617", strings.Repeat("9", 500), strings.Repeat("0", 500),
	} {
		if n, ok := impl.TextNum(s); n != 0 || ok {
			t.Errorf("TextNum(%q) = %d, %v", s, n, ok)
		}
	}
}

func TestP10Cut(t *testing.T) {
	for _, c := range []struct {
		s    string
		want []string
	}{
		{"", []string{""}},
		{"a", []string{"a"}},
		{" ", []string{"", ""}},
		{"  ", []string{"", "", ""}},
		{"a b", []string{"a", "b"}},
		{"a  b", []string{"a", "", "b"}},
		{" a b ", []string{"", "a", "b", ""}},
		{"a\tb\nc d", []string{"a\tb\nc", "d"}},
		{"\u00a0 \u3000", []string{"\u00a0", "\u3000"}},
		{"né 世界 x", []string{"né", "世界", "x"}},
		{"\xe4 \xff\xfe \x80", []string{"\xe4", "\xff\xfe", "\x80"}},
		{"\xe4\xb8 \x00", []string{"\xe4\xb8", "\x00"}},
	} {
		if got := impl.Cut(c.s); !slices.Equal(got, c.want) {
			t.Errorf("Cut(%q) = %q", c.s, got)
		}
	}
}

func TestP10Lines(t *testing.T) {
	for _, c := range []struct {
		s    string
		want []string
	}{
		{"", nil},
		{"\n", []string{""}},
		{"\n\n", []string{"", ""}},
		{"a", []string{"a"}},
		{"a\n", []string{"a"}},
		{"a\nb", []string{"a", "b"}},
		{"a\n\n", []string{"a", ""}},
		{"\na", []string{"", "a"}},
		{"a\n ", []string{"a", " "}},
		{"a b\r\nc\u2028d\n", []string{"a b\r", "c\u2028d"}},
		{"\xe4\n\xff\xfe\nné", []string{"\xe4", "\xff\xfe", "né"}},
	} {
		if got := impl.Lines(c.s); !slices.Equal(got, c.want) {
			t.Errorf("Lines(%q) = %q", c.s, got)
		}
	}
}

// The parts of any text, joined again, are that text.
func TestP10PartsMakeTheText(t *testing.T) {
	r := rand.New(rand.NewSource(3))
	for range 5000 {
		b := make([]byte, r.Intn(12))
		for i := range b {
			b[i] = []byte{' ', '\n', 'a', 0xe4, 0xb8, 0xff, 0}[r.Intn(7)]
		}
		s := string(b)
		if words := impl.Cut(s); strings.Join(words, " ") != s || len(words) != strings.Count(s, " ")+1 {
			t.Fatalf("Cut(%q) = %q", s, words)
		}
		whole := s
		if s != "" && !strings.HasSuffix(s, "\n") {
			whole += "\n"
		}
		lines := impl.Lines(s)
		joined := ""
		for _, line := range lines {
			joined += line + "\n"
		}
		if joined != whole || len(lines) != strings.Count(whole, "\n") {
			t.Fatalf("Lines(%q) = %q", s, lines)
		}
	}
}

// sharesText reports whether part lies inside the memory of s.
func sharesText(s string, part string) bool {
	if s == "" || part == "" {
		return false
	}
	first := uintptr(unsafe.Pointer(unsafe.StringData(s)))
	at := uintptr(unsafe.Pointer(unsafe.StringData(part)))
	return at >= first && at < first+uintptr(len(s))
}

func TestP10PartsAreNewMemory(t *testing.T) {
	s := strings.Repeat("some words\nand lines ", 3)
	for _, part := range append(impl.Cut(s), impl.Lines(s)...) {
		if sharesText(s, part) {
			t.Errorf("%q shares the memory of the text", part)
		}
	}
}

func TestP10IsAmt(t *testing.T) {
	for n, want := range map[int]bool{
		math.MinInt: false, -impl.MaxAmt: false, -1: false, 0: false, 1: true, 2: true, 500000000: true,
		impl.MaxAmt - 1: true, impl.MaxAmt: true, impl.MaxAmt + 1: false, impl.MaxNum: false, math.MaxInt: false,
	} {
		if impl.IsAmt(n) != want {
			t.Errorf("IsAmt(%d) is %v", n, !want)
		}
	}
}

func TestP10SameBytes(t *testing.T) {
	for _, c := range []struct {
		a, b []byte
		want bool
	}{
		{nil, nil, true},
		{nil, []byte{}, true},
		{[]byte{}, nil, true},
		{nil, []byte{0}, false},
		{[]byte{0}, nil, false},
		{[]byte{1, 2}, []byte{1, 2}, true},
		{[]byte{1, 2}, []byte{1, 3}, false},
		{[]byte{1, 2}, []byte{3, 2}, false},
		{[]byte{1, 2}, []byte{1, 2, 0}, false},
		{[]byte{1, 2, 0}, []byte{1, 2}, false},
		{make([]byte, 2, 9), make([]byte, 2, 3), true},
	} {
		if impl.SameBytes(c.a, c.b) != c.want {
			t.Errorf("SameBytes(%v, %v) is %v", c.a, c.b, !c.want)
		}
	}
}

func TestP10Crc(t *testing.T) {
	for s, want := range map[string]int{"": 0, "123456789": 3421780262, "\x00": 3523407757, "\xff": 4278190080} {
		if got := impl.Crc([]byte(s)); got != want {
			t.Errorf("Crc(%q) = %d", s, got)
		}
	}
	if impl.Crc(nil) != 0 {
		t.Error("Crc(nil) is not 0")
	}
	r := rand.New(rand.NewSource(4))
	for range 300 {
		b := make([]byte, r.Intn(200))
		r.Read(b)
		if got := impl.Crc(b); got != int(crc32.ChecksumIEEE(b)) {
			t.Errorf("Crc(%v) = %d", b, got)
		}
	}
}

func TestP10PuttingKeepsItsArguments(t *testing.T) {
	for _, n := range []int{0, 300, impl.MaxNum, -1} {
		b := guard([]byte{1, 2, 3}, 77)
		got, _ := impl.PutNum(b.arg, n)
		b.unchanged(t, "PutNum")
		scribble(got, 99)
		b.unchanged(t, "a write to the result of PutNum")
	}
	for _, elements := range [][]int{{}, {4, 300, impl.MaxNum}, {4, -1}} {
		b, l := guard([]byte{1, 2, 3}, 77), guard(elements, 55)
		got, _ := impl.PutNums(b.arg, l.arg)
		b.unchanged(t, "PutNums")
		l.unchanged(t, "PutNums")
		scribble(got, 99)
		b.unchanged(t, "a write to the result of PutNums")
	}
	empty := guard([]byte{}, 77)
	first, _ := impl.PutNum(empty.arg, 5)
	second, _ := impl.PutNum(empty.arg, 6)
	if first[0] != 5 || second[0] != 6 {
		t.Error("two results share memory")
	}
}

func TestP10ReadingKeepsItsArguments(t *testing.T) {
	b, c := guard([]byte{2, 5, 172, 2}, 77), guard([]byte{2, 5}, 66)
	impl.GetNum(b.arg, 2)
	l, _, _ := impl.GetNums(b.arg, 0, 2)
	scribble(l, 99)
	impl.Crc(b.arg)
	impl.SameBytes(b.arg, c.arg)
	b.unchanged(t, "reading")
	c.unchanged(t, "reading")
	again, _, _ := impl.GetNums(b.arg, 0, 2)
	if !slices.Equal(again, []int{5, 300}) {
		t.Error("two results share memory")
	}
}

// What lies in the spare capacity behind an argument is not part of it.
func TestP10SpareCapacityIsNotRead(t *testing.T) {
	cut := guard([]byte{172}, 2)
	refusesNum(t, cut.arg, 0)
	refusesNum(t, cut.arg, 1)
	list := guard([]byte{2, 5}, 7)
	refusesNums(t, list.arg, 0, 9)
	refusesNums(t, list.arg, 2, 9)
}
