package tests

import (
	"bytes"
	"math"
	"strings"
	"testing"
	"unsafe"

	"loop.example/g00839/impl"
)

// slowLock tells what the document's sentence gives: the key is turned till it begins at the place n, stands as often as it
// is needed, and of the two bytes at a place each bit is put together.
func slowLock(key string, n int64, text string) string {
	from := n % int64(len(key))
	keys := strings.Repeat(key[from:]+key[:from], len(text)+1)
	out := make([]byte, len(text))
	for i := range out {
		for bit := range 8 {
			if text[i]>>bit&1 != keys[i]>>bit&1 {
				out[i] += 1 << bit
			}
		}
	}
	return string(out)
}

// lockKeys are right keys, with bytes of 0, of 128 and above, and of each length.
func lockKeys() []string {
	return append(someSecrets(), "k", "key", "0123456789abcdef", "check ", "\x80\xff\x00")
}

// wrongKeys are texts that are no keys, and no masters either.
func wrongKeys() []string {
	return append(wrongSecrets(), someText(impl.MaxBytes+1), strings.Repeat("k", impl.MaxBytes), strings.Repeat("k", impl.MaxBytes+1))
}

// lockTimes are times: the edges, and some that are greater than a key is long.
func lockTimes() []int64 {
	return []int64{0, 1, 2, 7, 15, 16, 17, 31, 40, 255, 256, 257, 1000, 65535, 65537, impl.MaxTime - 1, impl.MaxTime}
}

func wrongTimes() []int64 {
	return []int64{-1, -2, -16, -17, -impl.MaxTime, impl.MaxTime + 1, impl.MaxTime + 2, 1 << 32, 1<<32 + 1, -1 << 32,
		math.MinInt64, math.MinInt64 + 1, math.MaxInt64, math.MaxInt64 - 1}
}

// lockTexts are texts that fit in, shorter and longer than a key, with bytes of 0, of 128 and above.
func lockTexts() []string {
	out := []string{"", "\x00", "a", "\x7f", "\x80", "\xff", "hello", "\u00e4\u20ac", "\xc3", "\x00\x80\xff", strings.Repeat("\x00", 40), strings.Repeat("\xff", 40)}
	for _, size := range []int{1, 2, 3, 15, 16, 17, 31, 32, 33, 39, 40} {
		out = append(out, someText(size), someText(50 + size)[50:])
	}
	return out
}

func longLockTexts() []string {
	return []string{someText(41), strings.Repeat("\x00", 41), strings.Repeat("\u00e4", 40), someText(42), someText(100), someText(296), someText(impl.MaxBytes), someText(impl.MaxBytes + 1)}
}

func wantLock(t *testing.T, what string, key string, n int64, text string, want string) {
	t.Helper()
	if got := impl.Lock(key, n, text); got != want {
		t.Errorf("%s: Lock(%q, %d, %q): got %q, want %q", what, clip(key), n, clip(text), clip(got), want)
	}
}

func TestLockKnown(t *testing.T) {
	known := []struct {
		key  string
		n    int64
		text string
		want string
	}{
		{"k", 0, "hello", "\x03\x0e\x07\x07\x04"}, {"k", impl.MaxTime, "hello", "\x03\x0e\x07\x07\x04"},
		{"ab", 0, "\x00\x00\x00", "aba"}, {"ab", 1, "\x00\x00\x00", "bab"}, {"ab", 2, "\x00\x00\x00", "aba"},
		{"abc", 1, "\x00\x00\x00\x00\x00", "bcabc"}, {"abc", 2, "\x00\x00\x00\x00\x00", "cabca"}, {"abc", 3, "\x00\x00\x00\x00\x00", "abcab"},
		{"abc", 999999, "\x00\x00", "ab"}, {"abc", 1000000, "\x00\x00", "bc"}, {"abcdefg", 1000000, "\x00\x00\x00", "bcd"},
		{"0123456789abcdef", 15, "\x00\x00", "f0"}, {"0123456789abcdef", 16, "\x00\x00", "01"}, {"0123456789abcdef", 999999, "\x00", "f"},
		{"ABC", 1, "   ", "bca"}, {"abc", 0, "abc", "\x00\x00\x00"}, {"abcd", 3, "d", "\x00"},
		{"\x00", 5, "as it is", "as it is"}, {"\xff", 0, "\x00\xff\x80\x7f\x01", "\xff\x00\x7f\x80\xfe"},
		{"\x80\x01", 0, "\x80\x80\x01\xff", "\x00\x81\x81\xfe"}, {"\x80\x01", 1, "\x80\x80\x01\xff", "\x81\x00\x00\x7f"},
		{"k", 0, "", ""}, {"\xc3\xa4", 0, "\x00\x00\x00", "\xc3\xa4\xc3"},
	}
	for _, k := range known {
		wantLock(t, "known", k.key, k.n, k.text, k.want)
	}
}

func TestLockEachByteByEach(t *testing.T) {
	for key := range 256 {
		for b := range 256 {
			wantLock(t, "one by one", string([]byte{byte(key)}), int64(b), string([]byte{byte(b)}), string([]byte{byte(key ^ b)}))
			wantLock(t, "the second by the second", string([]byte{1, byte(key)}), 0, string([]byte{2, byte(b)}), string([]byte{3, byte(key ^ b)}))
		}
	}
}

// Promise 7: what is locked is as long, and locked again it is what it was.
func TestLockedAgain(t *testing.T) {
	for _, key := range lockKeys() {
		for _, n := range lockTimes() {
			for _, text := range lockTexts() {
				locked := impl.Lock(key, n, text)
				if len(locked) != len(text) {
					t.Errorf("Lock(%q, %d, %q): %d bytes came of %d", key, n, text, len(locked), len(text))
				}
				wantLock(t, "by the document", key, n, text, slowLock(key, n, text))
				wantLock(t, "again", key, n, locked, text)
			}
		}
	}
}

// The place in the key goes round, wherever it begins: all the keys' lengths by all the places, and long times.
func TestLockGoesRound(t *testing.T) {
	text := someText(40)
	for size := 1; size <= 16; size++ {
		key := someText(30 + size)[30:]
		for n := range int64(70) {
			wantLock(t, "from a place", key, n, text, slowLock(key, n, text))
			wantLock(t, "from a place far on", key, impl.MaxTime-n, text, slowLock(key, impl.MaxTime-n, text))
			wantLock(t, "once more round", key, n+int64(size), text, impl.Lock(key, n, text))
		}
	}
}

// Each byte is locked for itself, so a text that stands behind another one is locked from the place on where it stands.
func TestLockOfTextsOneBehindTheOther(t *testing.T) {
	whole := someText(40)
	for _, key := range lockKeys() {
		for at := range 41 {
			ahead, behind := impl.Lock(key, 5, whole[:at]), impl.Lock(key, 5+int64(at), whole[at:])
			wantLock(t, "in two", key, 5, whole, ahead+behind)
		}
	}
}

func TestLockNoKey(t *testing.T) {
	for _, key := range wrongKeys() {
		for _, n := range append(wrongTimes(), 0, 1, impl.MaxTime) {
			for _, text := range []string{"", "a", someText(40), someText(41), someText(impl.MaxBytes + 1)} {
				wantLock(t, "no key", key, n, text, "")
			}
		}
	}
}

func TestLockNoTime(t *testing.T) {
	for _, key := range append(lockKeys(), wrongKeys()...) {
		for _, n := range wrongTimes() {
			for _, text := range []string{"", "a", someText(40), someText(41)} {
				wantLock(t, "no time", key, n, text, "")
			}
		}
	}
}

func TestLockLongText(t *testing.T) {
	for _, key := range append(lockKeys(), wrongKeys()...) {
		for _, n := range []int64{-1, 0, 1, impl.MaxTime, impl.MaxTime + 1} {
			for _, text := range longLockTexts() {
				wantLock(t, "a long text", key, n, text, "")
			}
		}
	}
}

func wantCheck(t *testing.T, what string, master string, want int64) {
	t.Helper()
	if got := impl.CheckOf(master); got != want {
		t.Errorf("%s: CheckOf(%q): got %d, want %d", what, clip(master), got, want)
	}
}

func TestCheckOf(t *testing.T) {
	for _, master := range lockKeys() {
		wantCheck(t, "a master", master, trueCrc("check "+master))
		wantCheck(t, "a master", master, impl.Crc("check "+master))
	}
	for b := range 256 {
		for _, master := range []string{string([]byte{byte(b)}), string([]byte{'m', byte(b)}), someText(15) + string([]byte{byte(b)})} {
			wantCheck(t, "each byte", master, trueCrc("check "+master))
		}
	}
	for size := 1; size <= 16; size++ {
		wantCheck(t, "each length", someText(70 + size)[70:], trueCrc("check "+someText(70 + size)[70:]))
	}
}

func TestCheckOfNoMaster(t *testing.T) {
	for _, no := range wrongKeys() {
		wantCheck(t, "no master", no, -1)
	}
	for _, size := range []int{0, 17, 18, 32, 256, 257, 272, impl.MaxBytes - 6, impl.MaxBytes - 5, impl.MaxBytes, impl.MaxBytes + 1, 2 * impl.MaxBytes} {
		wantCheck(t, "no master", someText(size), -1)
		wantCheck(t, "no master", strings.Repeat("\x00", size), -1)
	}
}

// textIn is a text that lies in the memory of a list, so that it can be told whether that changes.
func textIn(list []byte) string {
	return unsafe.String(unsafe.SliceData(list), len(list))
}

func TestLockLeavesAndSharesNothing(t *testing.T) {
	for _, size := range []int{1, 2, 16} {
		for _, long := range []int{1, 2, 16, 40} {
			key, text := []byte(someText(size)), []byte(someText(50 + long)[50:])
			wasKey, wasText := string(key), string(text)
			want := slowLock(wasKey, 3, wasText)
			locked := impl.Lock(textIn(key), 3, textIn(text))
			check := impl.CheckOf(textIn(key))
			if string(key) != wasKey || string(text) != wasText {
				t.Errorf("key of %d, text of %d bytes: what was handed in is changed", size, long)
			}
			copy(key, bytes.Repeat([]byte{77}, size))
			copy(text, bytes.Repeat([]byte{99}, long))
			if locked != want || shareMemory(locked, textIn(key)) || shareMemory(locked, textIn(text)) {
				t.Errorf("key of %d, text of %d bytes: what was locked shares memory", size, long)
			}
			wantLock(t, "again", wasKey, 3, wasText, want)
			wantCheck(t, "again", wasKey, check)
		}
	}
	// A key of noughts leaves the text as it is, and the answer is new all the same.
	text := someText(40)
	if same := impl.Lock("\x00", 0, text); same != text || shareMemory(same, text) {
		t.Errorf("by a key of noughts: got %q", same)
	}
}
