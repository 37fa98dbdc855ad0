package tests

import (
	"bytes"
	"hash/crc32"
	"math"
	"math/rand"
	"slices"
	"testing"

	"loop.example/g00801/impl"
)

// headBytes is what lies before a payload: its length and its Crc.
const headBytes = 6

// rawFrame builds a frame by the document's words alone, also one that no function may write or read.
func rawFrame(p []byte) []byte {
	crc := crc32.ChecksumIEEE(p)
	head := []byte{byte(len(p)), byte(len(p) >> 8), byte(crc), byte(crc >> 8), byte(crc >> 16), byte(crc >> 24)}
	return slices.Concat(head, p)
}

func rawFrames(l [][]byte) []byte {
	b := []byte{}
	for _, p := range l {
		b = append(b, rawFrame(p)...)
	}
	return b
}

// payloadSizes holds the limits of a payload and the sizes at which the second byte of the length changes.
func payloadSizes() []int {
	return []int{1, 2, 3, 9, 254, 255, 256, 257, 511, 512, impl.MaxFrame - 1, impl.MaxFrame}
}

// badSizes holds sizes that cannot be framed; those above 65535 do not fit into two bytes.
func badSizes() []int {
	return []int{0, impl.MaxFrame + 1, impl.MaxFrame + 2, 2047, 2048, 2256, 4096, 32768, 65535, 65536, 65537, 66000, 131073}
}

func payloadSamples() [][]byte {
	l := [][]byte{{0}, {7}, {255}, {0, 0}, {1, 0, 0, 0}, []byte("123456789"), make([]byte, impl.MaxFrame)}
	for _, size := range payloadSizes() {
		l = append(l, numbered(size, size))
	}
	return append(l, rawFrame([]byte{4, 5}), rawFrames([][]byte{{1}, {2, 3}}))
}

func isPayload(t *testing.T, what string, b []byte, at int, want []byte) {
	t.Helper()
	p, next, ok := impl.FrameGet(b, at)
	if !ok || !bytes.Equal(p, want) || next != at+headBytes+len(want) {
		t.Errorf("%s: at %d of %d bytes a payload of %d bytes is read as %d bytes, %d, %v, or with other values", what, at, len(b), len(want), len(p), next, ok)
	}
}

func refusesFrame(t *testing.T, what string, b []byte, at int) {
	t.Helper()
	if p, next, ok := impl.FrameGet(b, at); len(p) != 0 || next != 0 || ok {
		t.Errorf("%s: FrameGet at %d of %d bytes returns %d bytes, %d, %v", what, at, len(b), len(p), next, ok)
	}
}

// scansTo checks Scan and Torn of b.
func scansTo(t *testing.T, what string, b []byte, want [][]byte, stop int) {
	t.Helper()
	l, at := impl.Scan(b)
	if !slices.EqualFunc(l, want, bytes.Equal) || at != stop {
		t.Errorf("%s: Scan of %d bytes returns %d payloads up to %d, want %d up to %d, or other values", what, len(b), len(l), at, len(want), stop)
	}
	if impl.Torn(b) != (stop < len(b)) {
		t.Errorf("%s: Torn of %d bytes, %d of them in frames, is %v", what, len(b), stop, impl.Torn(b))
	}
}

func TestP10ConstantOfFrames(t *testing.T) {
	if impl.MaxFrame != 2000 {
		t.Error("MaxFrame is wrong")
	}
}

func TestP10FramePutBytes(t *testing.T) {
	for _, c := range []struct{ p, want []byte }{
		{[]byte("123456789"), []byte{9, 0, 0x26, 0x39, 0xf4, 0xcb, '1', '2', '3', '4', '5', '6', '7', '8', '9'}},
		{[]byte{0}, []byte{1, 0, 0x8d, 0xef, 0x02, 0xd2, 0}},
		{[]byte{255}, []byte{1, 0, 0, 0, 0, 0xff, 255}},
	} {
		if got, ok := impl.FramePut(nil, c.p); !ok || !bytes.Equal(got, c.want) {
			t.Errorf("FramePut of %v = %v, %v", c.p, got, ok)
		}
	}
	for _, p := range payloadSamples() {
		for _, front := range [][]byte{nil, {}, {9}, {0, 0, 0, 0, 0, 0}, rawFrame([]byte{8, 9}), numbered(3000, 1)} {
			got, ok := impl.FramePut(front, p)
			if !ok || !bytes.Equal(got, slices.Concat(front, rawFrame(p))) {
				t.Errorf("FramePut of %d bytes behind %d: %d bytes, %v, or other values", len(p), len(front), len(got), ok)
			}
		}
	}
	full, _ := impl.FramePut(nil, make([]byte, impl.MaxFrame))
	if full[0] != 208 || full[1] != 7 {
		t.Errorf("the length of %d bytes is written as %v", impl.MaxFrame, full[:2])
	}
}

func TestP10FramePutRefuses(t *testing.T) {
	for _, front := range [][]byte{nil, {}, {9}, rawFrame([]byte{1})} {
		for _, size := range badSizes() {
			if got, ok := impl.FramePut(front, numbered(size, 1)); got != nil || ok {
				t.Errorf("FramePut of %d bytes returns %d bytes, %v", size, len(got), ok)
			}
		}
		if got, ok := impl.FramePut(front, nil); got != nil || ok {
			t.Errorf("FramePut of nil returns %v, %v", got, ok)
		}
	}
}

func TestP6FramesAreRecovered(t *testing.T) {
	for _, p := range payloadSamples() {
		for _, front := range [][]byte{nil, {9}, {1, 0, 0}, numbered(700, 5)} {
			b, ok := impl.FramePut(front, p)
			if !ok {
				t.Fatalf("a payload of %d bytes is refused", len(p))
			}
			isPayload(t, "a frame at the end", b, len(front), p)
			isPayload(t, "a frame before other bytes", slices.Concat(b, []byte{5, 0, 200}), len(front), p)
			isPayload(t, "a frame before another", slices.Concat(b, rawFrame([]byte{1})), len(front), p)
		}
	}
	r := rand.New(rand.NewSource(6))
	for range 300 {
		p := make([]byte, 1+r.Intn(impl.MaxFrame))
		r.Read(p)
		b, _ := impl.FramePut(nil, p)
		isPayload(t, "a frame of any bytes", b, 0, p)
	}
}

func TestP10FrameGetAtOffsets(t *testing.T) {
	l := [][]byte{numbered(5, 1), {7}, numbered(300, 60)}
	b := rawFrames(l)
	starts := []int{0, 11, 18}
	for i, start := range starts {
		isPayload(t, "a frame in the middle", b, start, l[i])
	}
	for at := -3; at < len(b)+10; at++ {
		if !slices.Contains(starts, at) {
			refusesFrame(t, "between frames", b, at)
		}
	}
	last := len(b)
	for _, at := range append([]int{last, last + 1, 2 * last, -last, math.MaxInt - headBytes, math.MaxInt - last, math.MinInt + last}, oddInts...) {
		refusesFrame(t, "outside", b, at)
		refusesFrame(t, "outside of one frame", rawFrame([]byte{7}), at)
		refusesFrame(t, "outside of nothing", nil, at)
	}
	for _, nothing := range [][]byte{nil, {}} {
		for _, at := range []int{0, 1, headBytes} {
			refusesFrame(t, "nothing", nothing, at)
		}
	}
}

// A frame may be cut inside its length, its Crc or its payload; what lies behind the cut is not part of it.
func TestP10CutFramesAreRefused(t *testing.T) {
	for _, p := range payloadSamples() {
		front := rawFrame([]byte{1, 2})
		b := slices.Concat(front, rawFrame(p))
		for end := len(front); end < len(b); end++ {
			if end > len(front)+20 && end < len(b)-20 && end%97 != 0 {
				continue
			}
			for _, cut := range [][]byte{b[:end], slices.Clone(b[:end])} {
				refusesFrame(t, "a cut frame", cut, len(front))
				scansTo(t, "a cut frame behind a good one", cut, [][]byte{{1, 2}}, len(front))
				refusesFrame(t, "a cut frame at 0", cut[len(front):], 0)
				scansTo(t, "a cut frame at 0", cut[len(front):], nil, 0)
			}
		}
	}
}

// Every bit of the Crc and of the payload counts.
func TestP10WrongCrcIsRefused(t *testing.T) {
	for _, p := range [][]byte{{0}, {7}, []byte("123456789"), numbered(400, 3), make([]byte, impl.MaxFrame)} {
		for bit := range 8 * (4 + min(len(p), 40)) {
			bad := rawFrame(p)
			bad[2+bit/8] ^= 1 << (bit % 8)
			refusesFrame(t, "a wrong bit", bad, 0)
			scansTo(t, "a wrong bit behind a good frame", slices.Concat(rawFrame(p), bad), [][]byte{p}, headBytes+len(p))
		}
		swapped := rawFrame(p)
		slices.Reverse(swapped[2:6])
		refusesFrame(t, "the Crc in the other order", swapped, 0)
		last := rawFrame(p)
		last[len(last)-1] ^= 128
		refusesFrame(t, "a wrong last byte", last, 0)
		none := rawFrame(p)
		copy(none[2:6], make([]byte, 4))
		refusesFrame(t, "a Crc of 0", none, 0)
	}
}

func TestP10WrongLengthIsRefused(t *testing.T) {
	for _, size := range badSizes() {
		if size > 65535 {
			continue
		}
		p := numbered(size, 1)
		for _, tail := range [][]byte{nil, {0}, numbered(3000, 2), rawFrame([]byte{1})} {
			b := slices.Concat(rawFrame(p), tail)
			refusesFrame(t, "a bad length with its own Crc", b, 0)
			scansTo(t, "a bad length with its own Crc", b, nil, 0)
			scansTo(t, "a bad length behind a good frame", slices.Concat(rawFrame([]byte{3}), b), [][]byte{{3}}, 7)
		}
	}
	// The Crc of nothing is 0: zeros look like a frame without a payload.
	scansTo(t, "zeros", make([]byte, 60), nil, 0)
	scansTo(t, "zeros behind a frame", slices.Concat(rawFrame([]byte{3}), make([]byte, 60)), [][]byte{{3}}, 7)
	swapped := rawFrame(numbered(256, 1))
	swapped[0], swapped[1] = swapped[1], swapped[0]
	refusesFrame(t, "the length in the other order", swapped, 0)
	for _, other := range []int{1, 8, 10, 265, 2000} {
		b := slices.Concat(rawFrame([]byte("123456789")), numbered(3000, 4))
		b[0], b[1] = byte(other), byte(other>>8)
		refusesFrame(t, "another length", b, 0)
	}
}

func TestP10ScanOfNothing(t *testing.T) {
	scansTo(t, "nil", nil, nil, 0)
	scansTo(t, "no bytes", []byte{}, nil, 0)
	for size := 1; size < 20; size++ {
		scansTo(t, "no frame", bytes.Repeat([]byte{1}, size), nil, 0)
		scansTo(t, "no frame", bytes.Repeat([]byte{255}, size), nil, 0)
	}
}

// Frames are read as they were written, up to the first torn one; good frames behind it do not count.
func TestP6ScanStopsAtTheFirstTornFrame(t *testing.T) {
	l := [][]byte{{1}, numbered(300, 2), {0}, numbered(impl.MaxFrame, 3), {0}, {9, 9}, {1}}
	for torn := range l {
		good := rawFrames(l[:torn])
		bad := rawFrame(l[torn])
		bad[headBytes]++
		rest := rawFrames(l[torn+1:])
		scansTo(t, "a torn frame", slices.Concat(good, bad, rest), l[:torn], len(good))
		scansTo(t, "other bytes between frames", slices.Concat(good, []byte{5}, rest), l[:torn], len(good))
		scansTo(t, "the end of the frames", good, l[:torn], len(good))
		for extra := 1; extra < 9; extra++ {
			scansTo(t, "other bytes behind frames", slices.Concat(good, bytes.Repeat([]byte{1}, extra)), l[:torn], len(good))
		}
	}
	scansTo(t, "all frames", rawFrames(l), l, len(rawFrames(l)))
}

func TestP6ManyFramesAreRecovered(t *testing.T) {
	r := rand.New(rand.NewSource(7))
	for _, count := range []int{0, 1, 2, 3, 10, 100, 8000} {
		l := make([][]byte, count)
		for i := range l {
			l[i] = make([]byte, 1+r.Intn(1+r.Intn(40)))
			r.Read(l[i])
		}
		b, ok := impl.Frames(l)
		if !ok || !bytes.Equal(b, rawFrames(l)) {
			t.Fatalf("Frames of %d payloads: %d bytes, %v, or other values", count, len(b), ok)
		}
		scansTo(t, "many frames", b, l, len(b))
		scansTo(t, "many frames and a byte", append(b, 5), l, len(b))
	}
}

func TestP10FramesOfNothing(t *testing.T) {
	for _, l := range [][][]byte{nil, {}} {
		if b, ok := impl.Frames(l); len(b) != 0 || !ok {
			t.Errorf("Frames of no payloads = %v, %v", b, ok)
		}
	}
}

func TestP10FramesBytes(t *testing.T) {
	l := payloadSamples()
	if b, ok := impl.Frames(l); !ok || !bytes.Equal(b, rawFrames(l)) {
		t.Errorf("Frames of %d payloads: %d bytes, %v, or other values", len(l), len(b), ok)
	}
	for _, p := range l {
		one, ok := impl.Frames([][]byte{p})
		if !ok || !bytes.Equal(one, rawFrame(p)) {
			t.Errorf("Frames of one payload of %d bytes: %d bytes, %v, or other values", len(p), len(one), ok)
		}
	}
}

func TestP10FramesRefuses(t *testing.T) {
	bad := [][]byte{nil}
	for _, size := range badSizes() {
		bad = append(bad, numbered(size, 1))
	}
	for _, p := range bad {
		for _, l := range [][][]byte{{p}, {p, {1}}, {{1}, p}, {{1}, p, {2}}, {{1}, {2, 3}, p}, {p, p}} {
			if b, ok := impl.Frames(l); b != nil || ok {
				t.Errorf("Frames with a payload of %d bytes returns %d bytes, %v", len(p), len(b), ok)
			}
		}
	}
}

func TestP10Torn(t *testing.T) {
	one, two := rawFrame([]byte{1}), rawFrames([][]byte{{1}, {2, 3}})
	for _, b := range [][]byte{nil, {}, one, two, rawFrame(make([]byte, impl.MaxFrame))} {
		if impl.Torn(b) {
			t.Errorf("%d bytes of whole frames are torn", len(b))
		}
	}
	for _, b := range [][]byte{{0}, {1}, make([]byte, 6), one[:6], two[:8], append(slices.Clone(two), 0), rawFrame(nil), rawFrame(make([]byte, impl.MaxFrame+1))} {
		if !impl.Torn(b) {
			t.Errorf("%v is not torn", b)
		}
	}
}

// frameModel reads a frame by comparing b with what the document would have written for each size.
func frameModel(b []byte, at int) ([]byte, int, bool) {
	for size := 1; size <= impl.MaxFrame && at >= 0 && at+headBytes+size <= len(b); size++ {
		end := at + headBytes + size
		if p := b[at+headBytes : end]; bytes.Equal(rawFrame(p), b[at:end]) {
			return p, end, true
		}
	}
	return nil, 0, false
}

// Bytes of any kind, mostly frames with some damage, are read as the document says, at every offset.
func TestP10AnyBytes(t *testing.T) {
	r := rand.New(rand.NewSource(8))
	for range 1500 {
		b := []byte{}
		for range r.Intn(6) {
			p := make([]byte, r.Intn(9))
			r.Read(p)
			b = append(b, rawFrame(p)...)
		}
		for range r.Intn(3) {
			if len(b) > 0 {
				b[r.Intn(len(b))] = byte(r.Intn(4))
			}
		}
		b = b[:len(b)-r.Intn(min(len(b), 4)+1)]
		for at := -2; at < len(b)+3; at++ {
			if p, _, ok := frameModel(b, at); ok {
				isPayload(t, "any bytes", b, at, p)
			} else {
				refusesFrame(t, "any bytes", b, at)
			}
		}
		want, stop := [][]byte{}, 0
		for p, end, ok := frameModel(b, 0); ok; p, end, ok = frameModel(b, stop) {
			want, stop = append(want, p), end
		}
		scansTo(t, "any bytes", b, want, stop)
	}
}

func TestP10FramePutResultsAreNewMemory(t *testing.T) {
	for _, front := range [][]byte{{}, {9}, numbered(500, 1)} {
		for _, size := range append([]int{0, 1, 20}, payloadSizes()...) {
			b, p := guard(front, 77), guard(numbered(size, 2), 66)
			first, _ := impl.FramePut(b.arg, p.arg)
			second, _ := impl.FramePut(b.arg, p.arg)
			apart(t, "FramePut", 99, [][]byte{first, second}, b, p)
		}
	}
	// The spare capacity behind b may hold the payload, and b may be its own payload.
	array := numbered(40, 1)
	before := slices.Clone(array)
	got, ok := impl.FramePut(array[:3], array[3:9])
	if !ok || !bytes.Equal(got, slices.Concat(before[:3], rawFrame(before[3:9]))) || !bytes.Equal(array, before) {
		t.Error("a payload behind b is not read, or is changed")
	}
	got, ok = impl.FramePut(array[:5], array[:5])
	if !ok || !bytes.Equal(got, slices.Concat(before[:5], rawFrame(before[:5]))) || !bytes.Equal(array, before) {
		t.Error("b as its own payload is not read, or is changed")
	}
}

func TestP10FrameReadingResultsAreNewMemory(t *testing.T) {
	l := [][]byte{{7}, {7}, numbered(30, 4), numbered(impl.MaxFrame, 5), {7}}
	whole := rawFrames(l)
	for _, bytesOf := range [][]byte{{}, {1}, rawFrame([]byte{1}), whole, whole[:len(whole)-1], append(whole, 5)} {
		b := guard(bytesOf, 77)
		for _, at := range []int{-1, 0, 7, 14, len(bytesOf)} {
			first, _, _ := impl.FrameGet(b.arg, at)
			second, _, _ := impl.FrameGet(b.arg, at)
			apart(t, "FrameGet", 99, [][]byte{first, second}, b)
		}
		first, _ := impl.Scan(b.arg)
		second, _ := impl.Scan(b.arg)
		apart(t, "Scan", 99, slices.Concat(first, second), b)
		impl.Torn(b.arg)
		b.unchanged(t, "Torn")
	}
}

// Writing to one payload of a result, or appending to it, changes no other one.
func TestP10ScannedPayloadsAreApart(t *testing.T) {
	want := [][]byte{{1, 2}, {3}, {4, 5, 6}, {7}}
	b := rawFrames(want)
	for changed := range want {
		l, _ := impl.Scan(b)
		_ = append(l[changed], 99, 99, 99, 99, 99, 99, 99, 99)
		scribble(l[changed], 99)
		for i := range l {
			if i != changed && !bytes.Equal(l[i], want[i]) {
				t.Errorf("payload %d became %v", i, l[i])
			}
		}
	}
	// The list itself is new as well.
	l, _ := impl.Scan(b)
	scribble(l, []byte{99})
	scansTo(t, "after a write to a list of payloads", b, want, len(b))
}

func TestP10FramesKeepsItsArguments(t *testing.T) {
	filler := []byte{55}
	for _, sizes := range [][]int{{}, {1}, {1, 2, 300}, {impl.MaxFrame, 1}, {1, 0}, {2, impl.MaxFrame + 1, 1}} {
		args := []guarded[byte]{}
		list := make([][]byte, 0, len(sizes)+spare)
		for i, size := range sizes {
			args = append(args, guard(numbered(size, i), 77))
			list = append(list, args[i].arg)
		}
		full := list[:cap(list)]
		for i := len(sizes); i < len(full); i++ {
			full[i] = filler
		}
		first, _ := impl.Frames(list)
		second, _ := impl.Frames(list)
		apart(t, "Frames", 99, [][]byte{first, second}, args...)
		for i, now := range full {
			if i < len(sizes) && (len(now) != sizes[i] || len(now) > 0 && &now[0] != &args[i].arg[0]) {
				t.Errorf("element %d of the list was replaced", i)
			}
			if i >= len(sizes) && (len(now) != 1 || &now[0] != &filler[0] || filler[0] != 55) {
				t.Errorf("the spare capacity behind the list was changed at %d", i)
			}
		}
	}
	// One slice may stand for several elements.
	p := []byte{1, 2, 3}
	b, ok := impl.Frames([][]byte{p, p, p[:1]})
	if !ok || !bytes.Equal(b, rawFrames([][]byte{{1, 2, 3}, {1, 2, 3}, {1}})) {
		t.Error("a slice that occurs twice is not framed twice")
	}
}

// What lies in the spare capacity behind an argument is not part of it.
func TestP10SpareCapacityIsNoFrame(t *testing.T) {
	b := rawFrames([][]byte{{1, 2, 3}, {4}})
	for end := range len(b) {
		cut := b[:end]
		if end < 9 {
			refusesFrame(t, "the bytes behind a slice", cut, 0)
			scansTo(t, "the bytes behind a slice", cut, nil, 0)
		} else {
			scansTo(t, "the bytes behind a slice", cut, [][]byte{{1, 2, 3}}, 9)
			refusesFrame(t, "the bytes behind a slice", cut, 9)
		}
	}
	refusesFrame(t, "a frame behind an empty slice", b[:0], 0)
}

// A crash may cut a log that fills a disk: all frames but the last one remain.
func TestP6FramesOfAFullDisk(t *testing.T) {
	l := [][]byte{}
	for i := range impl.MaxDisk / (headBytes + 4) {
		l = append(l, numbered(4, i))
	}
	b, ok := impl.Frames(l)
	if !ok || len(b) != impl.MaxDisk {
		t.Fatalf("Frames returns %d bytes, %v", len(b), ok)
	}
	scansTo(t, "a full disk", b, l, impl.MaxDisk)
	for lost := 1; lost <= headBytes+4; lost++ {
		scansTo(t, "a full disk that lost bytes", b[:len(b)-lost], l[:len(l)-1], len(b)-headBytes-4)
	}
}
