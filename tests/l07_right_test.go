package tests

import (
	"math"
	"slices"
	"strings"
	"testing"

	"loop.example/g00839/impl"
)

// rightWords are words: the edges, and each letter.
func rightWords() []string {
	out := []string{"ab", "az", "za", "abc", "abcdefg", "abcdefgh", "zzzzzzzz", "aaaaaaaa", "zyxwvuts"}
	for b := 'a'; b <= 'z'; b++ {
		out = append(out, string(b), "m"+string(b), string(b)+"mnopqrs")
	}
	return out
}

// wrongWords are texts that are no words.
func wrongWords() []string {
	return []string{"", "abcdefghi", "aaaaaaaaa", "A", "Z", "aB", "`", "{", "a`", "z{", "0", "9", "a1", "1a", "a_", "_", " ", " a", "a ", "a,", "a\n",
		"\x00", "a\x00", "\x7f", "\x80", "\xff", "a\xe1", "\u00e4", "a\u00e4", strings.Repeat("\u00e4", 8), "\uff41", strings.Repeat("a", 256), strings.Repeat("a", 264),
		someText(impl.MaxBytes), strings.Repeat("a", impl.MaxBytes), strings.Repeat("a", impl.MaxBytes+1)}
}

// ends are the numbers next to both ends of what is right, and the ends of int64; some are right, if just their lowest bits are looked at.
func ends(least int64, greatest int64) []int64 {
	return []int64{least - 1, least, greatest, greatest + 1, 1<<32 + least, 1<<33 + greatest, -1 << 32, math.MinInt64, math.MinInt64 + 1, math.MaxInt64, math.MaxInt64 - 1}
}

// someBodies are right Bodies: short and long, with bytes of 0, of 128 and above.
func someBodies() []string {
	return []string{"v", "\x00", "\xff", "\x80\x00", "some text", "\u00e4\u20ac", strings.Repeat("\x00", 20), strings.Repeat("\xff", 20), someText(19), someText(20)}
}

func wrongBodies() []string {
	return []string{"", someText(21), strings.Repeat("\x00", 21), strings.Repeat("\u00e4", 20), someText(276), someText(impl.MaxBytes), someText(impl.MaxBytes + 1)}
}

// someLocked are right Locked, of all the edges.
func someLocked() []string {
	return []string{"x", "\x00", "\xff", "ab", someText(4), someText(15), someText(16), strings.Repeat("\x00", 16), strings.Repeat("\xff", 16)}
}

func among(n int64, least int64, greatest int64) bool {
	return !(n < least) && !(greatest < n)
}

func slowWordRight(t string) bool {
	return len(t) > 0 && len(t) < 9 && strings.Trim(t, "abcdefghijklmnopqrstuvwxyz") == ""
}

func slowConfRight(c impl.Conf) bool {
	return among(c.Gen, 1, 999) && among(c.Need, 1, 10) && among(c.Many, c.Need, 20) && among(c.Check, 0, 4294967295)
}

func slowTermRight(t impl.Term) bool {
	return among(t.No, 1, 5) && among(int64(len(t.Locked)), 1, 16)
}

func slowItemRight(i impl.Item) bool {
	return slowWordRight(i.Name) && among(i.Term, 1, 5) && among(int64(len(i.Body)), 1, 20)
}

// slowBookRight asks of each No and each Name whether it is the one of its place.
func slowBookRight(b impl.Book) bool {
	if len(b.Terms) == 0 {
		return len(b.Items) == 0 && b.Conf == impl.Conf{}
	}
	var names []string
	for _, i := range b.Items {
		if !slowItemRight(i) || i.Term > int64(len(b.Terms)) {
			return false
		}
		names = append(names, i.Name)
	}
	for n, t := range b.Terms {
		if !slowTermRight(t) || t.No != int64(n+1) {
			return false
		}
	}
	sorted := slices.Compact(slices.Sorted(slices.Values(names)))
	return slowConfRight(b.Conf) && len(b.Terms) < 6 && len(b.Items) < 9 && slices.Equal(names, sorted)
}

// slowDeedRight takes away what the Kind names, if that is right: nothing is to be left.
func slowDeedRight(d impl.Deed) bool {
	switch {
	case d.Kind == 1 && slowConfRight(d.Conf):
		d.Conf = impl.Conf{}
	case d.Kind == 2 && slowTermRight(d.Term):
		d.Term = impl.Term{}
	case d.Kind == 3 && slowItemRight(d.Item):
		d.Item = impl.Item{}
	case d.Kind == 4 && slowWordRight(d.Item.Name):
		d.Item.Name = ""
	default:
		return false
	}
	return d.Conf == impl.Conf{} && d.Term == impl.Term{} && d.Item == impl.Item{}
}

// termsOf are so many terms, of No 1, 2 and so on.
func termsOf(many int) []impl.Term {
	var out []impl.Term
	for i := range many {
		out = append(out, impl.Term{No: int64(i) + 1, Locked: someLocked()[i%9]})
	}
	return out
}

// itemsOf are items of so many terms, of these Names.
func itemsOf(terms int, names ...string) []impl.Item {
	var out []impl.Item
	for i, name := range names {
		out = append(out, impl.Item{Name: name, Term: int64(i%terms) + 1, Body: someBodies()[i%10]})
	}
	return out
}

func someConf() impl.Conf {
	return impl.Conf{Gen: 7, Need: 2, Many: 3, Check: 1234567890}
}

func eightNames() []string {
	return []string{"b", "d", "f", "h", "hh", "j", "m", "zz"}
}

// someBooks are right books: the zero one, and ones of few and many terms and items.
func someBooks() []impl.Book {
	out := []impl.Book{{}, {Terms: []impl.Term{}, Items: []impl.Item{}}}
	for _, terms := range []int{1, 2, 4, 5} {
		for _, items := range []int{0, 1, 2, 7, 8} {
			out = append(out, impl.Book{Conf: someConf(), Terms: termsOf(terms), Items: itemsOf(terms, eightNames()[:items]...)})
		}
	}
	for _, c := range []impl.Conf{{Gen: 1, Need: 1, Many: 1}, {Gen: 999, Need: 10, Many: 20, Check: 4294967295}, {Gen: 2, Need: 10, Many: 10, Check: 1}, {Gen: 998, Need: 1, Many: 20, Check: 1 << 31}} {
		out = append(out, impl.Book{Conf: c, Terms: termsOf(3), Items: itemsOf(3, "a", "aa", "ab", "abcdefgh", "b", "z", "zzzzzzzz")})
	}
	return out
}

// confs are Confs, each of whose numbers is at its ends, or beyond them.
func confs() []impl.Conf {
	var out []impl.Conf
	for _, need := range append(ends(1, 10), 2, 5) {
		for _, many := range append(ends(need, 20), 1, 10, 19) {
			out = append(out, impl.Conf{Gen: 1, Need: need, Many: many, Check: 0}, impl.Conf{Gen: 999, Need: need, Many: many, Check: 4294967295})
		}
	}
	for _, n := range ends(1, 999) {
		out = append(out, impl.Conf{Gen: n, Need: 2, Many: 3, Check: 5})
	}
	for _, n := range ends(0, 4294967295) {
		out = append(out, impl.Conf{Gen: 1, Need: 2, Many: 3, Check: n})
	}
	return out
}

func oneTerms() []impl.Term {
	var out []impl.Term
	for _, no := range append(ends(1, 5), 2, 3, 4) {
		for _, locked := range append(someLocked(), wrongSecrets()...) {
			out = append(out, impl.Term{No: no, Locked: locked})
		}
	}
	return out
}

func oneItems() []impl.Item {
	var out []impl.Item
	for _, name := range append(rightWords(), wrongWords()...) {
		out = append(out, impl.Item{Name: name, Term: 1, Body: "v"}, impl.Item{Name: name, Term: 5, Body: someText(20)})
	}
	for _, body := range append(someBodies(), wrongBodies()...) {
		for _, no := range append(ends(1, 5), 2, 3, 4) {
			out = append(out, impl.Item{Name: "a", Term: no, Body: body}, impl.Item{Name: "abcdefgh", Term: no, Body: body})
		}
	}
	return out
}

// oneFieldDeeds are deeds of a Kind, of which one field is not zero: that of the Kind or another one.
func oneFieldDeeds(kind int64) []impl.Deed {
	all := []impl.Deed{{Kind: kind}}
	for i := range int64(9) {
		d := impl.Deed{Kind: kind}
		switch i {
		case 0:
			d.Conf.Gen = 1
		case 1:
			d.Conf.Need = 1
		case 2:
			d.Conf.Many = 1
		case 3:
			d.Conf.Check = 1
		case 4:
			d.Term.No = 1
		case 5:
			d.Term.Locked = "x"
		case 6:
			d.Item.Name = "a"
		case 7:
			d.Item.Term = 1
		case 8:
			d.Item.Body = "v"
		}
		all = append(all, d)
	}
	return all
}

// rightDeeds are a few right deeds of each kind.
func rightDeeds() []impl.Deed {
	out := []impl.Deed{{Kind: 1, Conf: impl.Conf{Gen: 1, Need: 1, Many: 1}}, {Kind: 1, Conf: impl.Conf{Gen: 999, Need: 10, Many: 20, Check: 4294967295}}, {Kind: 1, Conf: someConf()}}
	for no := int64(1); no <= 5; no++ {
		out = append(out, impl.Deed{Kind: 2, Term: impl.Term{No: no, Locked: someLocked()[no+2]}})
		for _, name := range []string{"a", "b", "c", "hh", "m", "zz", "zzz"} {
			out = append(out, impl.Deed{Kind: 3, Item: impl.Item{Name: name, Term: no, Body: someBodies()[no+3]}})
		}
	}
	for _, name := range []string{"a", "b", "c", "hh", "m", "zz", "abcdefgh"} {
		out = append(out, impl.Deed{Kind: 4, Item: impl.Item{Name: name}})
	}
	return out
}

// manyDeeds are deeds that are right, and such in which one thing is not, or something is named that is to be zero.
func manyDeeds() []impl.Deed {
	out := rightDeeds()
	for _, c := range confs() {
		out = append(out, impl.Deed{Kind: 1, Conf: c})
	}
	for _, t := range oneTerms() {
		out = append(out, impl.Deed{Kind: 2, Term: t})
	}
	for _, i := range oneItems() {
		out = append(out, impl.Deed{Kind: 3, Item: i}, impl.Deed{Kind: 4, Item: i}, impl.Deed{Kind: 4, Item: impl.Item{Name: i.Name}})
	}
	for _, kind := range append(ends(1, 4), 2, 3, -2, 6, 255, 257) {
		out = append(out, oneFieldDeeds(kind)...)
		for _, d := range rightDeeds() {
			d.Kind = kind
			out = append(out, d)
		}
	}
	for _, d := range rightDeeds() {
		for _, more := range oneFieldDeeds(d.Kind) {
			both := d
			both.Conf.Gen += more.Conf.Gen
			both.Conf.Check += more.Conf.Need + more.Conf.Many + more.Conf.Check
			both.Term.No += more.Term.No
			both.Term.Locked += more.Term.Locked
			both.Item.Name += more.Item.Name
			both.Item.Term += more.Item.Term
			both.Item.Body += more.Item.Body
			out = append(out, both)
		}
	}
	return out
}

// oneFieldBooks are books that are zero but for one field.
func oneFieldBooks() []impl.Book {
	return []impl.Book{{Conf: someConf()}, {Conf: impl.Conf{Gen: 1}}, {Conf: impl.Conf{Need: 1}}, {Conf: impl.Conf{Many: 1}}, {Conf: impl.Conf{Check: 1}}, {Conf: impl.Conf{Gen: -1}},
		{Terms: termsOf(1)}, {Terms: termsOf(5)}, {Terms: make([]impl.Term, 1)}, {Items: itemsOf(1, "a")}, {Items: make([]impl.Item, 1)},
		{Terms: termsOf(1), Items: itemsOf(1, "a")}, {Conf: someConf(), Items: itemsOf(1, "a")}, {Conf: someConf(), Items: itemsOf(1, eightNames()...)}}
}

// oddTerms are lists of terms that are no book's.
func oddTerms() [][]impl.Term {
	x := func(nos ...int64) []impl.Term {
		var out []impl.Term
		for _, no := range nos {
			out = append(out, impl.Term{No: no, Locked: "x"})
		}
		return out
	}
	return [][]impl.Term{x(), x(2), x(0), x(-1), x(1, 3), x(1, 1), x(2, 1), x(1, 2, 2), x(1, 2, 4), x(2, 3), x(1, 3, 2), x(1, 2, 3, 4, 4), x(5, 4, 3, 2, 1), x(1, 2, 3, 5, 4), x(0, 1, 2),
		x(1, 2, 3, 4, 5, 6), x(1, 2, 3, 4, 5, 5), x(1, 2, 3, 4, 5, 1), x(1, 2, 1<<32+3), x(math.MinInt64), x(math.MaxInt64), make([]impl.Term, impl.MaxList), make([]impl.Term, impl.MaxList+1)}
}

// oddItems are lists of items out of order, or too many; two of them, of eight, are not.
func oddItems() [][]impl.Item {
	nine := itemsOf(1, append(eightNames(), "zzz")...)
	return [][]impl.Item{itemsOf(1, "b", "a"), itemsOf(1, "a", "a"), itemsOf(1, "ab", "a"), itemsOf(1, "b", "ab"), itemsOf(1, "a", "b", "b"), itemsOf(1, "a", "c", "b"), itemsOf(1, "b", "c", "a"),
		itemsOf(1, "z", "y", "x", "w", "v", "u", "t", "s"), itemsOf(1, "a", "b", "c", "d", "e", "f", "g", "g"), nine, nine[:8:8], nine[1:], make([]impl.Item, 2), make([]impl.Item, impl.MaxList+1)}
}

// oddBooks are books in which one thing is not right, and some in which it is.
func oddBooks() []impl.Book {
	out := oneFieldBooks()
	for _, c := range confs() {
		out = append(out, impl.Book{Conf: c, Terms: termsOf(2), Items: itemsOf(2, "a", "b", "c")})
	}
	for _, l := range oddTerms() {
		out = append(out, impl.Book{Conf: someConf(), Terms: l}, impl.Book{Conf: someConf(), Terms: l, Items: itemsOf(1, "a", "b")})
	}
	for _, t := range oneTerms() {
		for at := range 5 {
			terms := termsOf(5)
			terms[at] = t
			out = append(out, impl.Book{Conf: someConf(), Terms: terms})
		}
	}
	for _, l := range oddItems() {
		out = append(out, impl.Book{Conf: someConf(), Terms: termsOf(5), Items: l})
	}
	for n, i := range oneItems() {
		for terms := 1; terms <= 5; terms++ {
			items := itemsOf(terms, eightNames()...)
			items[n%8] = i
			out = append(out, impl.Book{Conf: someConf(), Terms: termsOf(terms), Items: []impl.Item{i}}, impl.Book{Conf: someConf(), Terms: termsOf(terms), Items: items})
		}
	}
	return out
}

func TestWordRight(t *testing.T) {
	for _, word := range rightWords() {
		if !impl.WordRight(word) {
			t.Errorf("%q is a word", word)
		}
	}
	for _, no := range wrongWords() {
		if impl.WordRight(no) {
			t.Errorf("%q is no word", clip(no))
		}
	}
}

func TestWordRightOfEachByteAtEachPlace(t *testing.T) {
	for size := 1; size <= 10; size++ {
		for at := range size {
			for b := range 256 {
				word := []byte(strings.Repeat("m", size))
				word[at] = byte(b)
				if got, want := impl.WordRight(string(word)), size <= 8 && b >= 97 && b <= 122; got != want {
					t.Errorf("is %q a word? got %v", word, got)
				}
			}
		}
	}
}

func TestBookRight(t *testing.T) {
	for _, b := range someBooks() {
		if !impl.BookRight(b) {
			t.Errorf("%+v is right", b)
		}
	}
	for _, b := range oneFieldBooks() {
		if impl.BookRight(b) {
			t.Errorf("%+v is not right", b)
		}
	}
	for _, l := range oddTerms() {
		if impl.BookRight(impl.Book{Conf: someConf(), Terms: l}) {
			t.Errorf("terms %+v are not right", l)
		}
	}
	right := 0
	for _, b := range oddBooks() {
		want := slowBookRight(b)
		if impl.BookRight(b) != want {
			t.Errorf("is %+v right? it should be %v", b, want)
		}
		if want {
			right++
		}
	}
	if right < 500 {
		t.Errorf("just %d of the books are right", right)
	}
}

func TestBookRightItemsOfTermsThatThereAre(t *testing.T) {
	for terms := 1; terms <= 5; terms++ {
		for no := int64(-1); no <= 7; no++ {
			for at := range 8 {
				b := impl.Book{Conf: someConf(), Terms: termsOf(terms), Items: itemsOf(1, eightNames()...)}
				b.Items[at].Term = no
				if got, want := impl.BookRight(b), no >= 1 && no <= int64(terms); got != want {
					t.Errorf("%d terms, item %d of term %d: got %v", terms, at, no, got)
				}
			}
		}
	}
}

func TestDeedRight(t *testing.T) {
	for _, d := range rightDeeds() {
		if !impl.DeedRight(d) {
			t.Errorf("%+v is right", d)
		}
	}
	right := map[int64]int{}
	for _, d := range manyDeeds() {
		want := slowDeedRight(d)
		if impl.DeedRight(d) != want {
			t.Errorf("is %+v right? it should be %v", d, want)
		}
		if want {
			right[d.Kind]++
		}
	}
	if len(right) != 4 || right[1] < 50 || right[2] < 40 || right[3] < 100 || right[4] < 80 {
		t.Errorf("too few of the deeds are right: %v", right)
	}
}

// Something is named that is to be zero: of each Kind each field of what the others name.
func TestDeedRightWhatIsNotNamedIsZero(t *testing.T) {
	named := []impl.Deed{{Conf: someConf()}, {Term: impl.Term{No: 1, Locked: "x"}}, {Item: impl.Item{Name: "a", Term: 1, Body: "v"}}, {Item: impl.Item{Name: "a"}}}
	for k, d := range named {
		d.Kind = int64(k) + 1
		if !impl.DeedRight(d) {
			t.Errorf("%+v is right", d)
		}
		for kind := int64(-1); kind <= 6; kind++ {
			other := d
			if other.Kind = kind; kind != int64(k)+1 && impl.DeedRight(other) {
				t.Errorf("%+v is not right", other)
			}
		}
		for _, more := range named {
			both := d
			if k != 0 && more.Conf != (impl.Conf{}) {
				both.Conf = more.Conf
			}
			if k != 1 && more.Term != (impl.Term{}) {
				both.Term = more.Term
			}
			if k != 2 && more.Item.Body != "" {
				both.Item = more.Item
			}
			if both != d && impl.DeedRight(both) {
				t.Errorf("%+v is not right", both)
			}
		}
	}
	for _, more := range []impl.Item{{Name: "a", Term: 1}, {Name: "a", Body: "v"}, {Name: "a", Term: -1}, {Name: "a", Body: "\x00"}, {Term: 1, Body: "v"}, {}} {
		if impl.DeedRight(impl.Deed{Kind: impl.DeDel, Item: more}) {
			t.Errorf("a DeDel of %+v is not right", more)
		}
	}
}
