package tests

import (
	"bytes"
	"math"
	"math/rand"
	"slices"
	"testing"

	"loop.example/g00801/impl"
)

// numbered returns size bytes in which neighbours, and bytes from other starts, differ.
func numbered(size int, start int) []byte {
	b := make([]byte, size)
	for i := range b {
		b[i] = byte(start + i%251)
	}
	return b
}

func sized(sure int, soft int) impl.Disk {
	return impl.Disk{Sure: numbered(sure, 1), Soft: numbered(soft, 101)}
}

// diskSamples holds valid disks, empty and full parts among them.
func diskSamples() []impl.Disk {
	return []impl.Disk{
		{},
		{Sure: []byte{}, Soft: []byte{}},
		sized(1, 0), sized(0, 1), sized(3, 4), sized(0, 9), sized(9, 0),
		sized(impl.MaxDisk-1, 0), sized(0, impl.MaxDisk-1), sized(9999, 10000),
		sized(impl.MaxDisk, 0), sized(0, impl.MaxDisk), sized(10000, 10000), sized(impl.MaxDisk-1, 1), sized(1, impl.MaxDisk-1),
	}
}

// badDisks holds disks that are not valid.
func badDisks() []impl.Disk {
	return []impl.Disk{
		sized(impl.MaxDisk+1, 0), sized(0, impl.MaxDisk+1), sized(10000, 10001), sized(10001, 10000),
		sized(impl.MaxDisk, 1), sized(1, impl.MaxDisk), sized(impl.MaxDisk, impl.MaxDisk), sized(3*impl.MaxDisk, 5),
	}
}

func allDisks() []impl.Disk { return append(diskSamples(), badDisks()...) }

// keeps holds every kind of keep for a Soft of this size.
func keeps(soft int) []int {
	return append([]int{0, 1, soft / 2, soft - 1, soft, soft + 1}, oddInts...)
}

func isDisk(t *testing.T, what string, got impl.Disk, sure []byte, soft []byte) {
	t.Helper()
	if !bytes.Equal(got.Sure, sure) || !bytes.Equal(got.Soft, soft) {
		t.Errorf("%s: %d and %d bytes, want %d and %d, or other values", what, len(got.Sure), len(got.Soft), len(sure), len(soft))
	}
}

func refused(t *testing.T, what string, got impl.Disk, ok bool) {
	t.Helper()
	if ok || len(got.Sure) != 0 || len(got.Soft) != 0 {
		t.Errorf("%s: %d and %d bytes, %v; want the zero value and false", what, len(got.Sure), len(got.Soft), ok)
	}
}

func TestP10ConstantOfDisks(t *testing.T) {
	if impl.MaxDisk != 20000 {
		t.Error("MaxDisk is wrong")
	}
}

func TestP10DiskOk(t *testing.T) {
	for _, d := range diskSamples() {
		if !impl.DiskOk(d) {
			t.Errorf("a disk of %d and %d bytes is not valid", len(d.Sure), len(d.Soft))
		}
	}
	for _, d := range badDisks() {
		if impl.DiskOk(d) {
			t.Errorf("a disk of %d and %d bytes is valid", len(d.Sure), len(d.Soft))
		}
	}
	roomy := impl.Disk{Sure: make([]byte, 1, 2*impl.MaxDisk), Soft: make([]byte, 1, 2*impl.MaxDisk)}
	if !impl.DiskOk(roomy) {
		t.Error("the spare capacity counts as bytes of a disk")
	}
}

func TestP10DiskWrite(t *testing.T) {
	for _, d := range diskSamples() {
		room := impl.MaxDisk - len(d.Sure) - len(d.Soft)
		for _, size := range []int{0, 1, 2, 500, room - 1, room} {
			if size < 0 || size > room {
				continue
			}
			b := numbered(size, 201)
			got, ok := impl.DiskWrite(d, b)
			if !ok {
				t.Fatalf("%d bytes are refused with room for %d", size, room)
			}
			isDisk(t, "DiskWrite", got, d.Sure, slices.Concat(d.Soft, b))
		}
	}
	got, ok := impl.DiskWrite(impl.Disk{Sure: []byte{1, 2}, Soft: []byte{3}}, []byte{4, 5})
	if !ok {
		t.Error("an ordinary write is refused")
	}
	isDisk(t, "an ordinary write", got, []byte{1, 2}, []byte{3, 4, 5})
}

func TestP10DiskWriteOfNothing(t *testing.T) {
	for _, b := range [][]byte{nil, {}} {
		got, ok := impl.DiskWrite(impl.Disk{}, b)
		if !ok {
			t.Error("a write of nothing to an empty disk is refused")
		}
		isDisk(t, "a write of nothing", got, nil, nil)
	}
}

func TestP10DiskWriteRefuses(t *testing.T) {
	for _, d := range diskSamples() {
		room := impl.MaxDisk - len(d.Sure) - len(d.Soft)
		for _, size := range []int{room + 1, room + 2, impl.MaxDisk + 1, 3 * impl.MaxDisk} {
			got, ok := impl.DiskWrite(d, numbered(size, 201))
			refused(t, "a write that passes MaxDisk", got, ok)
		}
	}
	for _, d := range badDisks() {
		for _, b := range [][]byte{nil, {}, {1}, numbered(impl.MaxDisk, 201)} {
			got, ok := impl.DiskWrite(d, b)
			refused(t, "a write to a disk that is not valid", got, ok)
		}
	}
}

// The document names no refusal for DiskSync, DiskAll and DiskFall: they do the same for a disk that is not valid.
func TestP10DiskSync(t *testing.T) {
	for _, d := range allDisks() {
		isDisk(t, "DiskSync", impl.DiskSync(d), slices.Concat(d.Sure, d.Soft), nil)
	}
	isDisk(t, "an ordinary sync", impl.DiskSync(impl.Disk{Sure: []byte{1, 2}, Soft: []byte{3}}), []byte{1, 2, 3}, nil)
}

func TestP10DiskAll(t *testing.T) {
	for _, d := range allDisks() {
		if got := impl.DiskAll(d); !bytes.Equal(got, slices.Concat(d.Sure, d.Soft)) {
			t.Errorf("DiskAll of %d and %d bytes has %d or other values", len(d.Sure), len(d.Soft), len(got))
		}
	}
	if got := impl.DiskAll(impl.Disk{Sure: []byte{1, 2}, Soft: []byte{3}}); !bytes.Equal(got, []byte{1, 2, 3}) {
		t.Errorf("DiskAll = %v", got)
	}
}

func TestP10DiskFall(t *testing.T) {
	d := impl.Disk{Sure: []byte{1, 2}, Soft: []byte{3, 4, 5}}
	for keep, want := range map[int][]byte{
		math.MinInt: {1, 2}, -1: {1, 2}, 0: {1, 2}, 1: {1, 2, 3}, 2: {1, 2, 3, 4}, 3: {1, 2, 3, 4, 5},
		4: {1, 2, 3, 4, 5}, math.MaxInt: {1, 2, 3, 4, 5},
	} {
		isDisk(t, "DiskFall", impl.DiskFall(d, keep), want, nil)
	}
	for _, keep := range keeps(0) {
		isDisk(t, "a crash of an empty disk", impl.DiskFall(impl.Disk{}, keep), nil, nil)
		isDisk(t, "a crash with an empty Soft", impl.DiskFall(impl.Disk{Sure: []byte{6}}, keep), []byte{6}, nil)
	}
}

func TestP10DiskReset(t *testing.T) {
	for _, d := range allDisks() {
		for _, size := range []int{0, 1, 700, impl.MaxDisk - 1, impl.MaxDisk, impl.MaxDisk + 1, 2 * impl.MaxDisk} {
			b := numbered(size, 201)
			got, ok := impl.DiskReset(d, b)
			if size > impl.MaxDisk || len(d.Soft) > 0 {
				refused(t, "DiskReset", got, ok)
				continue
			}
			if !ok {
				t.Errorf("a reset to %d bytes is refused", size)
			}
			isDisk(t, "DiskReset", got, b, nil)
		}
	}
	for _, b := range [][]byte{nil, {}} {
		got, ok := impl.DiskReset(impl.Disk{Sure: []byte{1}, Soft: []byte{}}, b)
		if !ok {
			t.Error("a reset to nothing is refused")
		}
		isDisk(t, "a reset to nothing", got, nil, nil)
		got, ok = impl.DiskReset(impl.Disk{Soft: []byte{1}}, b)
		refused(t, "a reset while Soft is not empty", got, ok)
	}
}

func TestP10DiskSame(t *testing.T) {
	for _, c := range []struct {
		a, b impl.Disk
		want bool
	}{
		{impl.Disk{}, impl.Disk{}, true},
		{impl.Disk{}, impl.Disk{Sure: []byte{}, Soft: []byte{}}, true},
		{impl.Disk{Sure: []byte{1}}, impl.Disk{Sure: []byte{1}, Soft: []byte{}}, true},
		{impl.Disk{Sure: []byte{1}, Soft: []byte{2}}, impl.Disk{Sure: []byte{1}, Soft: []byte{2}}, true},
		{impl.Disk{Sure: []byte{1}, Soft: []byte{2}}, impl.Disk{Sure: []byte{1, 2}}, false},
		{impl.Disk{Sure: []byte{1}, Soft: []byte{2}}, impl.Disk{Soft: []byte{1, 2}}, false},
		{impl.Disk{Sure: []byte{1}, Soft: []byte{2}}, impl.Disk{Sure: []byte{2}, Soft: []byte{1}}, false},
		{impl.Disk{Sure: []byte{1}, Soft: []byte{2}}, impl.Disk{Sure: []byte{1}, Soft: []byte{3}}, false},
		{impl.Disk{Sure: []byte{1}, Soft: []byte{2}}, impl.Disk{Sure: []byte{3}, Soft: []byte{2}}, false},
		{impl.Disk{Sure: []byte{1}, Soft: []byte{2}}, impl.Disk{Sure: []byte{1}, Soft: []byte{2, 0}}, false},
		{impl.Disk{Sure: []byte{1}, Soft: []byte{2}}, impl.Disk{Sure: []byte{1, 0}, Soft: []byte{2}}, false},
		{impl.Disk{Sure: []byte{1}}, impl.Disk{}, false},
		{impl.Disk{Soft: []byte{1}}, impl.Disk{}, false},
		{impl.Disk{Sure: make([]byte, 2, 9)}, impl.Disk{Sure: make([]byte, 2, 3), Soft: make([]byte, 0, 7)}, true},
	} {
		if impl.DiskSame(c.a, c.b) != c.want || impl.DiskSame(c.b, c.a) != c.want {
			t.Errorf("DiskSame of %v and %v is not %v", c.a, c.b, c.want)
		}
	}
	// The first two samples are both empty.
	for i, a := range allDisks()[1:] {
		for j, b := range allDisks()[1:] {
			if impl.DiskSame(a, b) != (i == j) {
				t.Errorf("DiskSame of disks %d and %d is %v", i+1, j+1, i != j)
			}
		}
	}
}

// A crash leaves the durable bytes and of the others the first keep ones, for every point within a write.
func TestP2CrashKeepsDurableAndPrefix(t *testing.T) {
	for _, d := range allDisks() {
		for _, keep := range keeps(len(d.Soft)) {
			kept := max(0, min(keep, len(d.Soft)))
			isDisk(t, "a crash", impl.DiskFall(d, keep), slices.Concat(d.Sure, d.Soft[:kept]), nil)
		}
	}
	d, _ := impl.DiskWrite(sized(20, 0), numbered(30, 50))
	d, _ = impl.DiskWrite(d, numbered(40, 90))
	for keep := range 71 {
		isDisk(t, "a crash within a write", impl.DiskFall(d, keep), impl.DiskAll(d)[:20+keep], nil)
	}
}

func TestP2SyncedBytesSurvive(t *testing.T) {
	for _, d := range allDisks() {
		synced := impl.DiskSync(d)
		for _, keep := range keeps(len(d.Soft)) {
			isDisk(t, "a crash after a sync", impl.DiskFall(synced, keep), slices.Concat(d.Sure, d.Soft), nil)
		}
	}
}

func TestP2WrittenBytesAreNotDurable(t *testing.T) {
	for _, d := range diskSamples() {
		got, ok := impl.DiskWrite(d, []byte{7})
		if !ok {
			continue
		}
		isDisk(t, "a crash after a write", impl.DiskFall(got, 0), d.Sure, nil)
	}
}

// A reset is atomic: whatever a crash keeps, only the new bytes are there, and all of them.
func TestP2ResetSurvives(t *testing.T) {
	for _, size := range []int{0, 1, 300, impl.MaxDisk} {
		b := numbered(size, 31)
		got, ok := impl.DiskReset(sized(50, 0), b)
		if !ok {
			t.Fatalf("a reset to %d bytes is refused", size)
		}
		for _, keep := range keeps(0) {
			isDisk(t, "a crash after a reset", impl.DiskFall(got, keep), b, nil)
		}
	}
}

// history is a disk beside what the document says of it: all bytes, and how many of them are durable.
type history struct {
	d    impl.Disk
	all  []byte
	sure int
}

func (h *history) write(t *testing.T, b []byte) {
	got, ok := impl.DiskWrite(h.d, b)
	if ok != (len(h.all)+len(b) <= impl.MaxDisk) {
		t.Fatalf("a write of %d bytes behind %d: %v", len(b), len(h.all), ok)
	}
	if ok {
		h.d, h.all = got, slices.Concat(h.all, b)
	} else {
		refused(t, "a write", got, ok)
	}
}

func (h *history) reset(t *testing.T, b []byte) {
	got, ok := impl.DiskReset(h.d, b)
	if ok != (len(h.all) == h.sure && len(b) <= impl.MaxDisk) {
		t.Fatalf("a reset to %d bytes with %d of %d durable: %v", len(b), h.sure, len(h.all), ok)
	}
	if ok {
		h.d, h.all, h.sure = got, slices.Clone(b), len(b)
	} else {
		refused(t, "a reset", got, ok)
	}
}

func (h *history) crash(keep int) {
	h.d = impl.DiskFall(h.d, keep)
	h.sure += max(0, min(keep, len(h.all)-h.sure))
	h.all = h.all[:h.sure]
}

func (h *history) sync() {
	h.d, h.sure = impl.DiskSync(h.d), len(h.all)
}

func TestP2LongHistories(t *testing.T) {
	r := rand.New(rand.NewSource(5))
	for range 30 {
		h := history{}
		largest := []int{5, 900, 9000}[r.Intn(3)]
		for range 300 {
			b := make([]byte, r.Intn(largest))
			r.Read(b)
			switch r.Intn(8) {
			case 0:
				h.sync()
			case 1:
				h.crash(r.Intn(len(h.all)-h.sure+4) - 2)
			case 2:
				h.reset(t, b)
			default:
				h.write(t, b)
			}
			isDisk(t, "a history", h.d, h.all[:h.sure], h.all[h.sure:])
			if !impl.DiskOk(h.d) || !bytes.Equal(impl.DiskAll(h.d), h.all) {
				t.Fatal("a disk of a history is not valid or has other bytes")
			}
		}
	}
}

// watchedDisk is a disk of guarded parts, and a guarded list of bytes beside it.
type watchedDisk struct {
	sure, soft, b guarded[byte]
}

func watch(d impl.Disk, b []byte) watchedDisk {
	return watchedDisk{guard(d.Sure, 71), guard(d.Soft, 72), guard(b, 73)}
}

func (w watchedDisk) disk() impl.Disk { return impl.Disk{Sure: w.sure.arg, Soft: w.soft.arg} }

// checkNew checks that results are apart from the arguments and from each other, and that nothing has changed the arguments.
func (w watchedDisk) checkNew(t *testing.T, what string, results ...[]byte) {
	t.Helper()
	for i, got := range results {
		for _, other := range append(results[:i:i], w.sure.arg, w.soft.arg, w.b.arg) {
			if touch(got, other) {
				t.Errorf("%s: a result shares memory with an argument or another result", what)
			}
		}
		scribble(got, 99)
	}
	w.sure.unchanged(t, what)
	w.soft.unchanged(t, what)
	w.b.unchanged(t, what)
}

func TestP10DiskResultsAreNewMemory(t *testing.T) {
	for _, d := range allDisks() {
		for _, b := range [][]byte{nil, {}, {5}, numbered(impl.MaxDisk, 3), numbered(impl.MaxDisk+1, 3)} {
			w := watch(d, b)
			written, _ := impl.DiskWrite(w.disk(), w.b.arg)
			again, _ := impl.DiskWrite(w.disk(), w.b.arg)
			w.checkNew(t, "DiskWrite", written.Sure, written.Soft, again.Sure, again.Soft)
			reset, _ := impl.DiskReset(w.disk(), w.b.arg)
			again, _ = impl.DiskReset(w.disk(), w.b.arg)
			w.checkNew(t, "DiskReset", reset.Sure, reset.Soft, again.Sure, again.Soft)
		}
		w := watch(d, nil)
		synced, again := impl.DiskSync(w.disk()), impl.DiskSync(w.disk())
		w.checkNew(t, "DiskSync", synced.Sure, synced.Soft, again.Sure, again.Soft)
		w.checkNew(t, "DiskAll", impl.DiskAll(w.disk()), impl.DiskAll(w.disk()))
		for _, keep := range keeps(len(d.Soft)) {
			fallen, again := impl.DiskFall(w.disk(), keep), impl.DiskFall(w.disk(), keep)
			w.checkNew(t, "DiskFall", fallen.Sure, fallen.Soft, again.Sure, again.Soft)
		}
		impl.DiskOk(w.disk())
		impl.DiskSame(w.disk(), w.disk())
		w.checkNew(t, "DiskOk and DiskSame")
	}
}

// What lies in the spare capacity behind a part, even the other part, is not part of it.
func TestP10DiskPartsOfOneArray(t *testing.T) {
	array := []byte{1, 2, 3, 4, 5, 6, 7, 8}
	d := impl.Disk{Sure: array[:2], Soft: array[2:5]}
	before := slices.Clone(array)
	got, ok := impl.DiskWrite(d, array[1:4])
	if !ok {
		t.Error("a write is refused")
	}
	isDisk(t, "DiskWrite", got, []byte{1, 2}, []byte{3, 4, 5, 2, 3, 4})
	isDisk(t, "DiskSync", impl.DiskSync(d), []byte{1, 2, 3, 4, 5}, nil)
	isDisk(t, "DiskFall", impl.DiskFall(d, 9), []byte{1, 2, 3, 4, 5}, nil)
	isDisk(t, "DiskFall", impl.DiskFall(d, 1), []byte{1, 2, 3}, nil)
	reset, ok := impl.DiskReset(impl.Disk{Sure: array[:2]}, array[:3])
	if !ok {
		t.Error("a reset is refused")
	}
	isDisk(t, "DiskReset", reset, []byte{1, 2, 3}, nil)
	both := impl.Disk{Sure: array, Soft: array}
	isDisk(t, "DiskSync of one array twice", impl.DiskSync(both), slices.Concat(array, array), nil)
	for _, part := range [][]byte{got.Sure, got.Soft, reset.Sure} {
		scribble(part, 99)
	}
	if !bytes.Equal(array, before) {
		t.Errorf("the array became %v", array)
	}
}
