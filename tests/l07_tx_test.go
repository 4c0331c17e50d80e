package tests

import (
	"encoding/binary"
	"math"
	"slices"
	"strings"
	"testing"

	"loop.example/g00839/impl"
)

func slowText(t string) string {
	return string(binary.AppendVarint(nil, int64(len(t)))) + t
}

func slowNums(numbers ...int64) string {
	var out []byte
	for _, n := range numbers {
		out = binary.AppendVarint(out, n)
	}
	return string(out)
}

// slowDeed is what is written of a deed, be it right or not.
func slowDeed(d impl.Deed) string {
	kind := slowNums(d.Kind)
	switch d.Kind {
	case 1:
		return kind + slowNums(d.Conf.Gen, d.Conf.Need, d.Conf.Many, d.Conf.Check)
	case 2:
		return kind + slowNums(d.Term.No) + slowText(d.Term.Locked)
	case 3:
		return kind + slowText(d.Item.Name) + slowNums(d.Item.Term) + slowText(d.Item.Body)
	case 4:
		return kind + slowText(d.Item.Name)
	}
	return kind
}

// slowTogether is what is sealed of deeds, with a number that may be another one than theirs.
func slowTogether(many int64, l ...impl.Deed) string {
	out := slowNums(many)
	for _, d := range l {
		out += slowDeed(d)
	}
	return out
}

// sealedIn is a text, sealed and put.
func sealedIn(body string) string {
	return slowText(slowSeal(body))
}

func slowTx(l ...impl.Deed) string {
	return sealedIn(slowTogether(int64(len(l)), l...))
}

// deedLists are lists of deeds that may be done together.
func deedLists() [][]impl.Deed {
	all := rightDeeds()
	var out [][]impl.Deed
	for size := 1; size <= 10; size++ {
		for from := 0; from+size <= len(all); from += 3 {
			out = append(out, all[from:from+size])
		}
	}
	for _, d := range manyDeeds() {
		if slowDeedRight(d) {
			out = append(out, []impl.Deed{d})
		}
	}
	return append(out, slices.Repeat([]impl.Deed{del("a")}, 10), slices.Repeat([]impl.Deed{put("abcdefgh", 5, someText(20))}, 10),
		slices.Repeat([]impl.Deed{conf(999, 10, 20, 4294967295)}, 10), slices.Repeat([]impl.Deed{term(5, someText(16))}, 10))
}

func sameLists(a [][]impl.Deed, b [][]impl.Deed) bool {
	return slices.EqualFunc(a, b, slices.Equal[[]impl.Deed])
}

func wantRead(t *testing.T, what string, bytes string, want ...[]impl.Deed) {
	t.Helper()
	if got := impl.TxRead(bytes); !sameLists(got, want) {
		t.Errorf("%s: TxRead(%q): got %d lists %+v, want %d", what, clip(bytes), len(got), got[:min(len(got), 3)], len(want))
	}
}

func wantReplay(t *testing.T, what string, bytes string, want impl.Book) {
	t.Helper()
	wantBook(t, what+": Replay", impl.Replay(bytes), want)
}

// slowReplay does all deeds of a list, or none of them and none behind.
func slowReplay(lists ...[]impl.Deed) impl.Book {
	done := impl.Book{}
	for _, l := range lists {
		b := copyOf(done)
		for _, d := range l {
			out := slowBookDo(b, d)
			if out.Code != impl.OK {
				return done
			}
			b = out.Book
		}
		done = b
	}
	return done
}

func TestTxBytes(t *testing.T) {
	known := impl.TxBytes([]impl.Deed{conf(999, 1, 20, 64), term(2, "k\x00"), put("ab", 2, "\xff"), del("zz")})
	if body := "\x08\x02\xce\x0f\x02\x28\x80\x01\x04\x04\x04k\x00\x06\x04ab\x04\x02\xff\x08\x04zz"; known != "\x38"+slowSeal(body) {
		t.Errorf("got %q, want %q sealed and put", known, body)
	}
	for _, l := range deedLists() {
		if got, want := impl.TxBytes(l), slowTx(l...); got != want {
			t.Errorf("TxBytes(%+v): got %q, want %q", l, got, want)
		}
	}
}

func TestTxBytesNone(t *testing.T) {
	for _, size := range []int{0, 11, 12, 20, 255, 256, 257, impl.MaxList, impl.MaxList + 1} {
		l := slices.Repeat([]impl.Deed{del("a")}, size)
		if got := impl.TxBytes(l); got != "" {
			t.Errorf("TxBytes of %d deeds: got %q", size, clip(got))
		}
	}
	if got := impl.TxBytes(nil); got != "" {
		t.Errorf("TxBytes of none: got %q", got)
	}
	for _, d := range manyDeeds() {
		if got := impl.TxBytes([]impl.Deed{d}); (got == "") == slowDeedRight(d) {
			t.Errorf("TxBytes of %+v: got %q", d, clip(got))
		}
	}
	for _, wrong := range wrongDeeds() {
		for size := 1; size <= 10; size++ {
			for at := range size {
				l := slices.Clone(rightDeeds()[:size])
				l[at] = wrong
				if got := impl.TxBytes(l); got != "" {
					t.Errorf("TxBytes of %d deeds, with %+v at %d: got %q", size, wrong, at, clip(got))
				}
			}
		}
	}
}

// wrongDeeds are a few deeds, in each of which one thing is not right.
func wrongDeeds() []impl.Deed {
	more := del("a")
	more.Item.Term = 1
	conf0 := conf(1, 2, 3, 7)
	conf0.Term.No = 1
	return []impl.Deed{{}, {Kind: 5}, {Kind: -1}, {Kind: 6, Item: impl.Item{Name: "a"}}, conf(0, 2, 3, 7), conf(1000, 2, 3, 7), conf(1, 0, 3, 7), conf(1, 11, 12, 7), conf(1, 3, 2, 7), conf(1, 2, 21, 7),
		conf(1, 2, 3, -1), conf(1, 2, 3, 4294967296), conf(-1, -2, -3, -7), term(0, "k"), term(6, "k"), term(1, ""), term(1, someText(17)), put("", 1, "v"), put("abcdefghi", 1, "v"), put("A", 1, "v"),
		put("a", 0, "v"), put("a", 6, "v"), put("a", 1, ""), put("a", 1, someText(21)), del(""), del("a_"), del("abcdefghi"), more, conf0}
}

// Promise 8: deeds that are done together come back from their bytes.
func TestDeedsComeBack(t *testing.T) {
	for _, l := range deedLists() {
		wantRead(t, "from their bytes", impl.TxBytes(l), l)
		wantRead(t, "from the bytes that the document tells", slowTx(l...), l)
		wantReplay(t, "from their bytes", impl.TxBytes(l), slowReplay(l))
	}
	lists := deedLists()
	for from := 0; from+20 < len(lists); from += 13 {
		bytes := ""
		for _, l := range lists[from : from+20] {
			bytes += impl.TxBytes(l)
		}
		wantRead(t, "many, one behind the other", bytes, lists[from:from+20]...)
	}
}

// someTxs are lists of deeds that can all be done, one after the other.
func someTxs() [][]impl.Deed {
	return [][]impl.Deed{{conf(1, 2, 3, 99)}, {put("b", 1, "some text"), term(2, "k2")}, {put("a", 2, "\x00\xff"), put("c", 1, someText(20)), del("b")}, {term(1, someText(16))},
		{conf(2, 3, 5, 4294967295), term(3, "k3"), put("zzz", 3, "v"), del("a"), put("a", 3, "w")}, {del("zzz")}}
}

// Promise 8: torn off anywhere some of them are read, none left out between.
func TestTornOffAnywhere(t *testing.T) {
	for first := range someTxs() {
		lists := append(someTxs()[first:], someTxs()[:first]...)
		bytes, behind := "", []int{}
		for _, l := range lists {
			bytes += impl.TxBytes(l)
			behind = append(behind, len(bytes))
		}
		for keep := range len(bytes) + 1 {
			whole := 0
			for whole < len(behind) && behind[whole] <= keep {
				whole++
			}
			wantRead(t, "torn off", bytes[:keep], lists[:whole]...)
			wantReplay(t, "torn off", bytes[:keep], slowReplay(lists[:whole]...))
		}
	}
	if b := slowReplay(someTxs()...); len(b.Terms) != 3 || len(b.Items) != 2 {
		t.Errorf("not all of them were done: %+v", b)
	}
}

// With a byte turned, wherever it is, and to whatever, all that is ahead of its list is read, and nothing of it or behind it.
func TestTxReadWithOneByteTurned(t *testing.T) {
	lists := someTxs()[:4]
	whole, at := "", []int{}
	for k, l := range lists {
		tx := impl.TxBytes(l)
		whole += tx
		at = append(at, slices.Repeat([]int{k}, len(tx))...)
	}
	bytes := []byte(whole)
	for i, was := range bytes {
		for b := range 256 {
			if bytes[i] = byte(b); bytes[i] != was {
				wantRead(t, "one byte turned", string(bytes), lists[:at[i]]...)
				wantReplay(t, "one byte turned", string(bytes), slowReplay(lists[:at[i]]...))
			}
		}
		bytes[i] = was
	}
	wantRead(t, "turned back", string(bytes), lists...)
}

// nones are bytes that are of no deeds.
func nones() []string {
	out := []string{"\x00", "\x01", "x", "\x80", "\xff", strings.Repeat("\x80", 9), strings.Repeat("\xff", 20), someText(100), slowText(""), slowText("abc"), slowText("abcd"), sealedIn(""),
		slowText(strings.Repeat("\x00", 4)), slowText(strings.Repeat("\x00", 5)), slowSeal(slowTogether(1, del("a"))), slowText(slowTogether(1, del("a"))), slowText(sealedIn(slowTogether(1, del("a"))))}
	for b := range 256 {
		out = append(out, sealedIn(string([]byte{byte(b)})), sealedIn(slowTogether(1, del("a"))+string([]byte{byte(b)})), sealedIn(string([]byte{byte(b)})+slowTogether(1, del("a"))))
	}
	eleven := slices.Repeat([]impl.Deed{del("a")}, 11)
	for _, many := range []int64{0, -1, 2, 10, 11, 12, 256, 257, 1<<32 + 1, -1 << 32, math.MinInt64, math.MaxInt64} {
		out = append(out, sealedIn(slowNums(many)), sealedIn(slowTogether(many, del("a"))), sealedIn(slowTogether(many, eleven...)))
	}
	for many := range int64(11) {
		out = append(out, sealedIn(slowTogether(many, eleven...)))
	}
	for _, wrong := range wrongDeeds()[:27] {
		out = append(out, slowTx(wrong), slowTx(wrong, del("a")), slowTx(del("a"), wrong), slowTx(put("a", 1, "v"), wrong, del("a")))
	}
	for _, l := range someTxs() {
		body := slowTogether(int64(len(l)), l...)
		for i := range body {
			out = append(out, sealedIn(body[:i]), sealedIn(body[i+1:]))
		}
		out = append(out, sealedIn(body+body), sealedIn(slowSeal(body)), slowText(slowSeal(body)+"x"), slowText("x"+slowSeal(body)))
	}
	return out
}

func TestTxReadOfNone(t *testing.T) {
	wantRead(t, "no bytes", "")
	wantReplay(t, "no bytes", "", impl.Book{})
	first := []impl.Deed{conf(1, 2, 3, 7), put("a", 1, "v")}
	second := []impl.Deed{put("b", 1, "v")}
	for _, none := range nones() {
		wantRead(t, "none", none)
		wantReplay(t, "none", none, impl.Book{})
		wantRead(t, "none behind one", slowTx(first...)+none, first)
		wantReplay(t, "none behind one", slowTx(first...)+none, slowReplay(first))
		wantRead(t, "none ahead of one", none+slowText("")+slowTx(first...))
		wantRead(t, "none between two", slowTx(first...)+none+slowText("")+slowTx(second...), first)
		wantReplay(t, "none between two", slowTx(first...)+none+slowText("")+slowTx(second...), slowReplay(first))
	}
}

// A number has more bytes than are needed, or is none at all, wherever in the deed.
func TestTxReadNumbersWrittenWrongly(t *testing.T) {
	for _, l := range [][]string{{"\x02", "\x02", "\x02", "\x04", "\x06", "\x0e"}, {"\x02", "\x04", "\x04", "\x02", "k"}, {"\x02", "\x06", "\x02", "a", "\x02", "\x02", "v"}, {"\x02", "\x08", "\x02", "a"}} {
		if got := impl.TxRead(sealedIn(strings.Join(l, ""))); len(got) != 1 || len(got[0]) != 1 {
			t.Errorf("%q: got %+v", l, got)
		}
		for at, was := range l {
			for _, n := range []string{string([]byte{was[0] + 128, 0}), string([]byte{was[0] + 128, 128, 0}), strings.Repeat("\x80", 9) + "\x02", strings.Repeat("\xff", 10), ""} {
				l[at] = n
				wantRead(t, "written wrongly", sealedIn(strings.Join(l, "")))
			}
			l[at] = was
		}
	}
}

// The length of what is put has more bytes than are needed.
func TestTxReadLengthWrittenWrongly(t *testing.T) {
	seal := slowSeal(slowTogether(1, del("a")))
	wantRead(t, "written rightly", "\x10"+seal, []impl.Deed{del("a")})
	for _, n := range []string{"\x90\x00", "\x90\x80\x00", "\x0f", "\x11", "\x0e", "\x12", strings.Repeat("\x80", 9) + "\x02"} {
		wantRead(t, "written wrongly", n+seal)
	}
}

// bigBytes are so many bytes, of lists that can all be done. A list of one term is nine bytes longer than its Locked.
func bigBytes(size int) (string, [][]impl.Deed) {
	lists := [][]impl.Deed{{conf(1, 2, 3, 7)}, {put("a", 1, "v")}}
	bytes := slowTx(lists[0]...) + slowTx(lists[1]...)
	for left := size - len(bytes); left > 0; left = size - len(bytes) {
		one := 25
		if left <= 50 && left > 25 {
			one = left / 2
		}
		l := []impl.Deed{term(1, someText(len(lists) + 16)[len(lists):][:min(one, left)-9])}
		lists = append(lists, l)
		bytes += slowTx(l...)
	}
	return bytes, lists
}

func TestTxReadLong(t *testing.T) {
	for _, size := range []int{impl.MaxBytes - 100, impl.MaxBytes - 1, impl.MaxBytes} {
		bytes, lists := bigBytes(size)
		if len(bytes) != size {
			t.Fatalf("there are %d bytes, not %d", len(bytes), size)
		}
		wantRead(t, "many", bytes, lists...)
		wantReplay(t, "many", bytes, slowReplay(lists...))
		wantRead(t, "many, the last one torn", bytes[:size-1], lists[:len(lists)-1]...)
		wantReplay(t, "many, the last one torn", bytes[:size-1], slowReplay(lists[:len(lists)-1]...))
	}
	small := strings.Repeat(slowTx(del("a")), impl.MaxBytes/9)
	wantRead(t, "as many lists as there may be", small+strings.Repeat("x", impl.MaxBytes-len(small)), slices.Repeat([][]impl.Deed{{del("a")}}, impl.MaxBytes/9)...)
	for _, size := range []int{impl.MaxBytes + 1, impl.MaxBytes + 2, 2 * impl.MaxBytes} {
		bytes, _ := bigBytes(size)
		wantRead(t, "more than 8000", bytes)
		wantReplay(t, "more than 8000", bytes, impl.Book{})
		eight, _ := bigBytes(impl.MaxBytes)
		wantRead(t, "more than 8000", eight+strings.Repeat("x", size-len(eight)))
		wantReplay(t, "more than 8000", eight+strings.Repeat("x", size-len(eight)), impl.Book{})
	}
}

// A deed in the midst of a list tells a code: all of that list, and of those behind it, is left out.
func TestReplayLeavesOut(t *testing.T) {
	first := []impl.Deed{conf(1, 2, 3, 7), term(2, "k"), put("a", 1, "v")}
	behind := []impl.Deed{put("z", 1, "v")}
	full := append(slices.Clone(first), put("b", 1, "v"), put("c", 1, "v"), put("d", 1, "v"), put("e", 1, "v"), put("f", 1, "v"), put("g", 1, "v"))
	fuller := append([]impl.Deed{put("h", 1, "v")}, put("i", 1, "v"))
	for _, bad := range []impl.Deed{term(4, "k"), put("b", 3, "v"), del("b"), del("z")} {
		for at := range 4 {
			l := slices.Insert([]impl.Deed{put("c", 2, "w"), conf(5, 5, 5, 5), term(1, "turned")}, at, bad)
			bytes := impl.TxBytes(first) + impl.TxBytes(l) + impl.TxBytes(behind)
			wantRead(t, "all are read", bytes, first, l, behind)
			wantReplay(t, "one can not be done", bytes, slowReplay(first))
		}
	}
	wantReplay(t, "all can be done", impl.TxBytes(full), slowReplay(full))
	wantReplay(t, "full in the midst of a list", impl.TxBytes(full)+impl.TxBytes(fuller)+impl.TxBytes([]impl.Deed{del("a")}), slowReplay(full))
	wantReplay(t, "full, but one goes ahead", impl.TxBytes(full)+impl.TxBytes(append([]impl.Deed{del("a")}, fuller...)), slowReplay(full, append([]impl.Deed{del("a")}, fuller...)))
	wantReplay(t, "none has begun", impl.TxBytes(behind)+impl.TxBytes(first), impl.Book{})
	wantReplay(t, "begun too late", impl.TxBytes([]impl.Deed{put("a", 1, "v"), conf(1, 2, 3, 7)})+impl.TxBytes(first), impl.Book{})
	wantReplay(t, "just begun", impl.TxBytes([]impl.Deed{conf(1, 2, 3, 7)}), impl.Book{Conf: impl.Conf{Gen: 1, Need: 2, Many: 3, Check: 7}, Terms: []impl.Term{{No: 1, Locked: "x"}}})
}

func TestReplayOfManyLists(t *testing.T) {
	n := uint32(7)
	for range 200 {
		var lists [][]impl.Deed
		bytes := ""
		for k := range 12 {
			var l []impl.Deed
			if k == 0 {
				l = append(l, conf(1, 2, 3, 7))
			}
			for range 1 + n>>8%4 {
				n = n*1664525 + 1013904223
				l = append(l, deedBy(n>>4))
			}
			lists = append(lists, l)
			bytes += impl.TxBytes(l)
		}
		wantRead(t, "many lists", bytes, lists...)
		wantReplay(t, "many lists", bytes, slowReplay(lists...))
		if !impl.BookRight(impl.Replay(bytes)) {
			t.Errorf("%+v is not right", impl.Replay(bytes))
		}
	}
}

func TestDeedsStayAsTheyWere(t *testing.T) {
	fill := impl.Deed{Kind: 77}
	for _, was := range append(someTxs(), nil, []impl.Deed{{}}, rightDeeds()[:10], rightDeeds()[:11]) {
		l := withRoom(was, fill)
		bytes := impl.TxBytes(l)
		wantAsItWas(t, "deeds", l, was, fill)
		overwrite(l, fill)
		if got := impl.TxBytes(was); got != bytes {
			t.Errorf("again: got %q, want %q", got, bytes)
		}
	}
}

func deedTexts(lists [][]impl.Deed) []string {
	var out []string
	for _, l := range lists {
		for _, d := range l {
			out = append(out, d.Term.Locked, d.Item.Name, d.Item.Body)
		}
	}
	return out
}

func TestListsOfDeedsAreNewMemory(t *testing.T) {
	lists := someTxs()
	bytes := ""
	for _, l := range lists {
		tx := impl.TxBytes(l)
		for _, given := range deedTexts(lists) {
			if shareMemory(tx, given) {
				t.Errorf("the bytes of %+v share memory", l)
			}
		}
		bytes += tx
	}
	got := impl.TxRead(bytes)
	for _, told := range append(deedTexts(got), textsOf(impl.Replay(bytes))...) {
		if shareMemory(told, bytes) {
			t.Errorf("%q shares memory with the bytes", told)
		}
	}
	for k := range got {
		got := impl.TxRead(bytes)
		overwrite(got[k], impl.Deed{Kind: 77})
		for other := range got {
			if other != k && !slices.Equal(got[other], lists[other]) {
				t.Errorf("list %d shares memory with list %d", other, k)
			}
		}
	}
	wantRead(t, "again", bytes, lists...)
}
