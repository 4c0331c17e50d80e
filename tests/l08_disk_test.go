package tests

import (
	"bytes"
	"fmt"
	"math"
	"strings"
	"testing"

	"loop.example/g00839/impl"
)

// diskOf is a disk with so many bytes in Safe and in Tail, all kinds of them.
func diskOf(safe int, tail int) impl.Disk {
	whole := someText(safe + tail)
	return impl.Disk{Safe: whole[:safe], Tail: whole[safe:]}
}

// someDisks are right disks: of ordinary bytes, with one piece or both empty, and of 2999 and 3000 bytes together.
func someDisks() []impl.Disk {
	out := []impl.Disk{{}, {Safe: "ab"}, {Tail: "cde"}, {Safe: "ab", Tail: "cde"}, {Safe: "\x00", Tail: "\x00\x00"}, {Safe: "\xff\x80", Tail: "\x7f\xff"},
		{Safe: "\u00e4\u20ac", Tail: "\u00e4"}, {Safe: "same", Tail: "same"}, {Safe: strings.Repeat("\u00e4", 750), Tail: strings.Repeat("\u00e4", 750)}}
	for _, size := range [][2]int{{1, 1}, {7, 1}, {1, 7}, {100, 200}, {0, 2999}, {2999, 0}, {1, 2998}, {2998, 1}, {1499, 1500},
		{0, 3000}, {3000, 0}, {1, 2999}, {2999, 1}, {1500, 1500}, {1000, 2000}} {
		out = append(out, diskOf(size[0], size[1]))
	}
	return out
}

// wrongDisks hold too much: in one piece, or just in both together, by one byte and by very many.
func wrongDisks() []impl.Disk {
	out := []impl.Disk{{Safe: strings.Repeat("\u00e4", 750), Tail: strings.Repeat("\u00e4", 751)}}
	for _, size := range [][2]int{{0, 3001}, {3001, 0}, {1, 3000}, {3000, 1}, {2, 2999}, {1500, 1501}, {1501, 1500}, {3000, 3000}, {3001, 3001},
		{0, impl.MaxBytes}, {impl.MaxBytes, 0}, {0, impl.MaxBytes + 1}, {impl.MaxBytes + 1, 0}, {impl.MaxBytes + 1, impl.MaxBytes + 1},
		{1 << 16, 0}, {0, 1 << 16}, {1 << 15, 1 << 15}, {1<<16 - 1, 2}} {
		out = append(out, diskOf(size[0], size[1]))
	}
	return out
}

// keeps are numbers of bytes that a crash keeps: the edges of a Tail of that length, and of int64. Some are small, if just their
// lowest bits are looked at.
func keeps(tail int) []int64 {
	n := int64(tail)
	return []int64{0, 1, 2, n / 2, n - 2, n - 1, n, n + 1, n + 2, -1, -2, -n, -n - 1, 3000, 3001, 1 << 31, 1<<32 + 1, -1 << 32, -1<<32 + 1,
		math.MinInt64, math.MinInt64 + 1, math.MaxInt64, math.MaxInt64 - 1}
}

func diskName(d impl.Disk) string {
	return fmt.Sprintf("%d and %d bytes (%q, %q)", len(d.Safe), len(d.Tail), clip(d.Safe), clip(d.Tail))
}

func wantDisk(t *testing.T, what string, got impl.Disk, want impl.Disk) {
	t.Helper()
	if got != want {
		t.Errorf("%s: got %s, want %s", what, diskName(got), diskName(want))
	}
}

func wantAppend(t *testing.T, d impl.Disk, text string, want impl.DiskOut) {
	t.Helper()
	got := impl.Append(d, text)
	if got.Code != want.Code {
		t.Errorf("Append to %s, %d bytes: got code %d, want %d", diskName(d), len(text), got.Code, want.Code)
	}
	wantDisk(t, fmt.Sprintf("Append to %s, %d bytes", diskName(d), len(text)), got.Disk, want.Disk)
}

// slowAppend asks for the faults in the order in which the document names them.
func slowAppend(d impl.Disk, text string) impl.DiskOut {
	switch whole := d.Safe + d.Tail; {
	case len(text) > 8000:
		return impl.DiskOut{Code: impl.ErrSize}
	case len(whole) > 3000:
		return impl.DiskOut{Code: impl.ErrForm}
	case len(whole+text) > 3000:
		return impl.DiskOut{Code: impl.ErrFull}
	}
	return impl.DiskOut{Disk: impl.Disk{Safe: d.Safe, Tail: d.Tail + text}}
}

// slowCrash makes safe one byte after the other, as many as are to be kept.
func slowCrash(d impl.Disk, keep int64) impl.Disk {
	if len(d.Safe+d.Tail) > 3000 {
		return d
	}
	safe := d.Safe
	for i := int64(0); i < keep && i < int64(len(d.Tail)); i++ {
		safe += d.Tail[i : i+1]
	}
	return impl.Disk{Safe: safe}
}

func slowSync(d impl.Disk) impl.Disk {
	if len(d.Safe+d.Tail) > 3000 {
		return d
	}
	return impl.Disk{Safe: d.Safe + d.Tail}
}

func TestDiskRight(t *testing.T) {
	for _, d := range someDisks() {
		if !impl.DiskRight(d) {
			t.Errorf("a disk of %s is right", diskName(d))
		}
	}
	for _, d := range wrongDisks() {
		if impl.DiskRight(d) {
			t.Errorf("a disk of %s is not right", diskName(d))
		}
	}
	for safe := range 3002 {
		for _, whole := range []int{2999, 3000, 3001} {
			if safe <= whole && impl.DiskRight(diskOf(safe, whole-safe)) != (whole <= 3000) {
				t.Errorf("a disk of %d and %d bytes: want %v", safe, whole-safe, whole <= 3000)
			}
		}
	}
}

func TestDiskKnown(t *testing.T) {
	d := impl.Disk{Safe: "ab", Tail: "cde"}
	wantAppend(t, impl.Disk{}, "", impl.DiskOut{})
	wantAppend(t, impl.Disk{}, "x", impl.DiskOut{Disk: impl.Disk{Tail: "x"}})
	wantAppend(t, impl.Disk{Safe: "ab"}, "", impl.DiskOut{Disk: impl.Disk{Safe: "ab"}})
	wantAppend(t, impl.Disk{Safe: "ab"}, "cde", impl.DiskOut{Disk: d})
	wantAppend(t, d, "", impl.DiskOut{Disk: d})
	wantAppend(t, d, "fg", impl.DiskOut{Disk: impl.Disk{Safe: "ab", Tail: "cdefg"}})
	wantDisk(t, "Sync", impl.Sync(d), impl.Disk{Safe: "abcde"})
	for keep, safe := range map[int64]string{math.MinInt64: "ab", -1: "ab", 0: "ab", 1: "abc", 2: "abcd", 3: "abcde", 4: "abcde", math.MaxInt64: "abcde"} {
		wantDisk(t, fmt.Sprintf("Crash that keeps %d", keep), impl.Crash(d, keep), impl.Disk{Safe: safe})
	}
}

// appendSizes are sizes next to what fits in, and very many bytes.
func appendSizes(d impl.Disk) []int {
	fits := max(3000-len(d.Safe)-len(d.Tail), 0)
	return []int{0, 1, 2, max(fits-1, 0), fits, fits + 1, 2999, 3000, 3001, 7999, impl.MaxBytes, impl.MaxBytes + 1, 2 * impl.MaxBytes, 1 << 16, 1<<16 + 1}
}

// All disks by all sizes: what fits in just so, one byte more, and where two codes fit or all three do.
func TestAppend(t *testing.T) {
	for _, d := range append(someDisks(), wrongDisks()...) {
		for _, size := range appendSizes(d) {
			text := someText(50 + size)[50:]
			wantAppend(t, d, text, slowAppend(d, text))
		}
	}
}

func TestAppendEachCode(t *testing.T) {
	wrong, full, empty := diskOf(3000, 1), diskOf(1500, 1500), impl.Disk{}
	cases := []struct {
		what string
		d    impl.Disk
		size int
		code int64
	}{
		{"just as much as fits in", empty, 3000, impl.OK}, {"nothing, to a full one", full, 0, impl.OK},
		{"one byte too much", full, 1, impl.ErrFull}, {"one byte too much at once", empty, 3001, impl.ErrFull},
		{"as much as a call takes", empty, 8000, impl.ErrFull}, {"more than a call takes", empty, 8001, impl.ErrSize},
		{"more than a call takes, to a full one", full, 8001, impl.ErrSize},
		{"nothing, to a wrong one", wrong, 0, impl.ErrForm}, {"a wrong one that would be too full", wrong, 1, impl.ErrForm},
		{"as much as a call takes, to a wrong one", wrong, 8000, impl.ErrForm}, {"more, to a wrong one", wrong, 8001, impl.ErrSize},
	}
	for _, c := range cases {
		got := impl.Append(c.d, someText(c.size))
		if got.Code != c.code {
			t.Errorf("%s: got code %d, want %d", c.what, got.Code, c.code)
		}
		if got.Code != impl.OK && got.Disk != (impl.Disk{}) {
			t.Errorf("%s: beside code %d a disk of %s is told", c.what, got.Code, diskName(got.Disk))
		}
	}
}

// One byte after the other, as many as fit in: not one less, and not one more.
func TestAppendTillItIsFull(t *testing.T) {
	text := someText(3001)
	for _, safe := range []int{0, 1, 2900, 2999, 3000} {
		d := impl.Disk{Safe: text[:safe]}
		for i := safe; i < 3000; i++ {
			out := impl.Append(d, text[i:i+1])
			if out.Code != impl.OK {
				t.Fatalf("behind %d bytes: code %d", i, out.Code)
			}
			d = out.Disk
		}
		wantDisk(t, "full", d, impl.Disk{Safe: text[:safe], Tail: text[safe:3000]})
		wantAppend(t, d, "x", impl.DiskOut{Code: impl.ErrFull})
		wantAppend(t, d, "", impl.DiskOut{Disk: d})
		wantAppend(t, impl.Sync(d), "x", impl.DiskOut{Code: impl.ErrFull})
	}
}

func TestSync(t *testing.T) {
	for _, d := range append(someDisks(), wrongDisks()...) {
		once := impl.Sync(d)
		wantDisk(t, "Sync of "+diskName(d), once, slowSync(d))
		wantDisk(t, "Sync once more of "+diskName(d), impl.Sync(once), once)
	}
}

func TestCrash(t *testing.T) {
	for _, d := range append(someDisks(), wrongDisks()...) {
		for _, keep := range keeps(len(d.Tail)) {
			what := fmt.Sprintf("Crash of %s that keeps %d", diskName(d), keep)
			once := impl.Crash(d, keep)
			wantDisk(t, what, once, slowCrash(d, keep))
			for _, again := range keeps(len(d.Tail)) {
				wantDisk(t, what+", once more", impl.Crash(once, again), once)
			}
		}
	}
}

func TestCrashEachKeep(t *testing.T) {
	for _, d := range []impl.Disk{diskOf(0, 40), diskOf(5, 40), diskOf(2960, 40), diskOf(0, 3000), diskOf(2, 2998)} {
		whole := d.Safe + d.Tail
		for keep := range len(d.Tail) + 3 {
			left := min(len(d.Safe)+keep, len(whole))
			wantDisk(t, fmt.Sprintf("Crash that keeps %d", keep), impl.Crash(d, int64(keep)), impl.Disk{Safe: whole[:left]})
		}
	}
}

// What is not right stays as it is: no piece is cut short, or put behind the other one.
func TestWrongDisksStay(t *testing.T) {
	for _, d := range wrongDisks() {
		wantDisk(t, "Sync", impl.Sync(d), d)
		for _, keep := range keeps(len(d.Tail)) {
			wantDisk(t, "Crash", impl.Crash(d, keep), d)
		}
	}
}

func TestDiskEachByte(t *testing.T) {
	for b := range 256 {
		one := string([]byte{byte(b)})
		d := impl.Disk{Safe: one, Tail: "m" + one}
		wantAppend(t, d, one+"n", impl.DiskOut{Disk: impl.Disk{Safe: one, Tail: "m" + one + one + "n"}})
		wantDisk(t, "Sync", impl.Sync(d), impl.Disk{Safe: one + "m" + one})
		wantDisk(t, "Crash", impl.Crash(d, 1), impl.Disk{Safe: one + "m"})
		wantDisk(t, "Crash", impl.Crash(d, 2), impl.Disk{Safe: one + "m" + one})
	}
}

// writtenTo is a disk that deeds are done to, beside what was ever written to it, and how much of that is safe.
type writtenTo struct {
	disk    impl.Disk
	written string
	safe    int
}

func (w *writtenTo) add(t *testing.T, text string) {
	t.Helper()
	out := impl.Append(w.disk, text)
	if len(w.written)+len(text) > 3000 {
		wantAppend(t, w.disk, text, impl.DiskOut{Code: impl.ErrFull})
		return
	}
	wantDisk(t, "behind what was written", out.Disk, impl.Disk{Safe: w.disk.Safe, Tail: w.disk.Tail + text})
	w.disk, w.written = out.Disk, w.written+text
}

func (w *writtenTo) sync() {
	w.disk = impl.Sync(w.disk)
	w.safe = len(w.written)
}

// crash tells how much is left: all that was safe, and a beginning of the rest.
func (w *writtenTo) crash(t *testing.T, keep int64) {
	t.Helper()
	w.disk = impl.Crash(w.disk, keep)
	left := len(w.disk.Safe)
	if left < w.safe || left > len(w.written) || int64(left-w.safe) > max(keep, 0) {
		t.Fatalf("a crash that keeps %d leaves %d bytes, of %d safe and %d in all", keep, left, w.safe, len(w.written))
	}
	w.written, w.safe = w.written[:left], left
}

// Promise 9: what was safe stays, whatever comes; a crash leaves all that was safe, and a beginning of the rest; behind a sync it
// leaves all.
func TestWhatWasSafeStays(t *testing.T) {
	for seed := range uint32(60) {
		w, n := &writtenTo{}, seed*7919+1
		for range 200 {
			n = n*1664525 + 1013904223
			was, safe := w.disk, w.disk.Safe
			switch pick := n >> 28; {
			case pick < 9:
				w.add(t, someText(300)[n>>8%150:][:n>>16%120])
			case pick < 12:
				w.sync()
				wantDisk(t, "a crash behind a sync", impl.Crash(w.disk, int64(n%100)-10), w.disk)
			default:
				w.crash(t, int64(n>>8%130)-10)
			}
			if !strings.HasPrefix(w.disk.Safe, safe) || !impl.DiskRight(w.disk) {
				t.Fatalf("seed %d: of %s came %s", seed, diskName(was), diskName(w.disk))
			}
			wantDisk(t, "what was written", w.disk, impl.Disk{Safe: w.written[:w.safe], Tail: w.written[w.safe:]})
		}
	}
}

func TestWhatWasSafeStaysOfEach(t *testing.T) {
	for _, d := range someDisks() {
		whole := d.Safe + d.Tail
		for _, keep := range keeps(len(d.Tail)) {
			safe := impl.Crash(d, keep).Safe
			if !strings.HasPrefix(safe, d.Safe) || !strings.HasPrefix(whole, safe) {
				t.Errorf("a crash of %s that keeps %d leaves %d bytes %q", diskName(d), keep, len(safe), clip(safe))
			}
			wantDisk(t, "a crash behind a sync of "+diskName(d), impl.Crash(impl.Sync(d), keep), impl.Disk{Safe: whole})
		}
	}
}

// diskTexts are the texts of a disk, each in its place.
func diskTexts(d impl.Disk) []string {
	return []string{d.Safe, d.Tail}
}

func TestDiskLeavesAndSharesNothing(t *testing.T) {
	for _, size := range [][3]int{{0, 0, 2}, {0, 2, 0}, {2, 0, 0}, {5, 0, 5}, {0, 5, 5}, {5, 5, 0}, {5, 7, 9}, {1000, 1000, 1000}, {3000, 0, 0}, {0, 3000, 0},
		{0, 0, 3000}, {0, 0, 3001}, {3000, 1, 2}, {3001, 0, 2}, {0, 3001, 2}, {1501, 1500, 2}, {9000, 9000, 9000}} {
		safe, tail, text := []byte(someText(size[0])), []byte(someText(size[1] + 9)[9:]), []byte(someText(size[2] + 5)[5:])
		d, more := impl.Disk{Safe: textIn(safe), Tail: textIn(tail)}, textIn(text)
		was, wasMore := impl.Disk{Safe: string(safe), Tail: string(tail)}, string(text)
		answers := []impl.Disk{impl.Append(d, more).Disk, impl.Sync(d), impl.Crash(d, -1), impl.Crash(d, 0), impl.Crash(d, 3), impl.Crash(d, math.MaxInt64)}
		if d != was || more != wasMore {
			t.Errorf("%v bytes: what was handed in is changed", size)
		}
		for i, a := range answers {
			for _, part := range diskTexts(a) {
				if shareMemory(part, d.Safe) || shareMemory(part, d.Tail) || shareMemory(part, more) {
					t.Errorf("%v bytes: answer %d shares memory with what was handed in", size, i)
				}
			}
			if shareMemory(a.Safe, a.Tail) {
				t.Errorf("%v bytes: the pieces of answer %d share memory", size, i)
			}
		}
		for _, list := range [][]byte{safe, tail, text} {
			copy(list, bytes.Repeat([]byte{77}, len(list)))
		}
		want := []impl.Disk{slowAppend(was, wasMore).Disk, slowSync(was), slowCrash(was, -1), slowCrash(was, 0), slowCrash(was, 3), slowCrash(was, math.MaxInt64)}
		for i, a := range answers {
			wantDisk(t, fmt.Sprintf("answer %d, when what was handed in is overwritten", i), a, want[i])
		}
	}
}

// What a disk was made of stays as it is, whatever comes of it: two tails that grow from one disk do not meet.
func TestTwoOfOneDisk(t *testing.T) {
	d := impl.Append(impl.Disk{Safe: "safe"}, "tail").Disk
	one, two := impl.Append(d, "one").Disk, impl.Append(d, "twos").Disk
	synced, torn := impl.Sync(d), impl.Crash(d, 1)
	after := impl.Append(torn, "XYZ").Disk
	wantDisk(t, "the first", d, impl.Disk{Safe: "safe", Tail: "tail"})
	wantDisk(t, "one", one, impl.Disk{Safe: "safe", Tail: "tailone"})
	wantDisk(t, "two", two, impl.Disk{Safe: "safe", Tail: "tailtwos"})
	wantDisk(t, "synced", synced, impl.Disk{Safe: "safetail"})
	wantDisk(t, "torn", torn, impl.Disk{Safe: "safet"})
	wantDisk(t, "written to the torn one", after, impl.Disk{Safe: "safet", Tail: "XYZ"})
}

// Chapter 9 by chapter 8: of what a crash leaves as many deeds are read as were left whole.
func TestDeedsOnADisk(t *testing.T) {
	first, second := slowTx(conf(1, 2, 3, 4)), slowTx(put("a", 1, "v"), put("b", 1, "w"))
	d := impl.Append(impl.Sync(impl.Append(impl.Disk{}, first).Disk), second).Disk
	for keep := range len(second) + 2 {
		read := impl.TxRead(impl.Crash(d, int64(keep)).Safe)
		want := 1
		if keep >= len(second) {
			want = 2
		}
		if len(read) != want {
			t.Errorf("a crash that keeps %d of %d bytes: %d lists are read, want %d", keep, len(second), len(read), want)
		}
	}
}
