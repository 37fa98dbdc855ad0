package impl

import (
	"bytes"
	"strconv"
	"strings"
)

const MaxNum = 1125899906842624
const MaxAmt = 1000000000
const MaxNodes = 4
const MaxAccts = 3

// MaxNum has 51 bits, in groups of seven.
const mostGroups = 8

func isNum(n int) bool { return n >= 0 && n <= MaxNum }

func appendVarint(b []byte, n int) []byte {
	for n > 127 {
		b = append(b, byte(n&127|128))
		n >>= 7
	}
	return append(b, byte(n))
}

// appendNums starts from a copy of b: an append to b itself could write into
// the spare capacity behind it, which belongs to the caller.
func appendNums(b []byte, nums ...int) ([]byte, bool) {
	out := append([]byte{}, b...)
	for _, n := range nums {
		if !isNum(n) {
			return nil, false
		}
		out = appendVarint(out, n)
	}
	return out, true
}

func PutNum(b []byte, n int) ([]byte, bool) { return appendNums(b, n) }

func GetNum(b []byte, at int) (int, int, bool) {
	if at < 0 || at >= len(b) {
		return 0, 0, false
	}
	n := 0
	for i, c := range b[at:] {
		// Further groups would only exceed MaxNum, and could overflow an int.
		if i == mostGroups {
			break
		}
		n |= int(c&127) << (7 * i)
		if c > 127 {
			continue
		}
		// A last group of 0 would give a number a second, longer encoding.
		if n > MaxNum || c == 0 && i > 0 {
			break
		}
		return n, at + i + 1, true
	}
	return 0, 0, false
}

func PutNums(b []byte, l []int) ([]byte, bool) {
	return appendNums(b, append([]int{len(l)}, l...)...)
}

func GetNums(b []byte, at int, most int) ([]int, int, bool) {
	count, end, ok := GetNum(b, at)
	if !ok || count > most {
		return nil, 0, false
	}
	// The list grows element by element: the count alone may promise more than
	// b holds, and more than fits into memory.
	l := []int{}
	for range count {
		n, next, ok := GetNum(b, end)
		if !ok {
			return nil, 0, false
		}
		l = append(l, n)
		end = next
	}
	return l, end, true
}

func NumText(n int) string {
	if !isNum(n) {
		return ""
	}
	return strconv.Itoa(n)
}

func TextNum(s string) (int, bool) {
	n := 0
	for _, c := range s {
		if c < '0' || c > '9' {
			return 0, false
		}
		n = n*10 + int(c-'0')
		if n > MaxNum {
			return 0, false
		}
	}
	// The empty string and leading zeros pass the loop.
	if NumText(n) != s {
		return 0, false
	}
	return n, true
}

// splitAt copies every part, because a substring shares the memory of s. The
// separators are ASCII, so a byte that is not valid UTF-8 never hides one.
func splitAt(s string, separator rune) []string {
	parts := []string{}
	start := 0
	for i, c := range s {
		if c == separator {
			parts = append(parts, strings.Clone(s[start:i]))
			start = i + 1
		}
	}
	return append(parts, strings.Clone(s[start:]))
}

func Cut(s string) []string { return splitAt(s, ' ') }

func Lines(s string) []string {
	parts := splitAt(s, '\n')
	last := len(parts) - 1
	if parts[last] == "" {
		return parts[:last]
	}
	return parts
}

func IsAmt(n int) bool { return n >= 1 && n <= MaxAmt }

func SameBytes(a []byte, b []byte) bool { return bytes.Equal(a, b) }

func Crc(b []byte) int {
	v := uint32(4294967295)
	for _, c := range b {
		v ^= uint32(c)
		for range 8 {
			out := v & 1
			v >>= 1
			if out == 1 {
				v ^= 3988292384
			}
		}
	}
	return int(v ^ 4294967295)
}
