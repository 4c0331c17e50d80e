package tests

import (
	"slices"
	"testing"

	"loop.example/g00839/impl"
)

func sameBook(a impl.Book, b impl.Book) bool {
	return a.Conf == b.Conf && slices.Equal(a.Terms, b.Terms) && slices.Equal(a.Items, b.Items)
}

func wantBook(t *testing.T, what string, got impl.Book, want impl.Book) {
	t.Helper()
	if !sameBook(got, want) {
		t.Errorf("%s: got %+v, want %+v", what, got, want)
	}
}

// wantDone asks for the book that comes of a deed, or, beside a code, for the zero one.
func wantDone(t *testing.T, what string, b impl.Book, d impl.Deed, want impl.BookOut) {
	t.Helper()
	got := impl.BookDo(b, d)
	if got.Code != want.Code || !sameBook(got.Book, want.Book) {
		t.Errorf("%s: BookDo(%+v, %+v): got %+v, want %+v", what, b, d, got, want)
	}
}

func wantDoCode(t *testing.T, what string, b impl.Book, d impl.Deed, code int64) {
	t.Helper()
	wantDone(t, what, b, d, impl.BookOut{Code: code})
}

func conf(gen int64, need int64, many int64, check int64) impl.Deed {
	return impl.Deed{Kind: impl.DeConf, Conf: impl.Conf{Gen: gen, Need: need, Many: many, Check: check}}
}

func term(no int64, locked string) impl.Deed {
	return impl.Deed{Kind: impl.DeTerm, Term: impl.Term{No: no, Locked: locked}}
}

func put(name string, no int64, body string) impl.Deed {
	return impl.Deed{Kind: impl.DePut, Item: impl.Item{Name: name, Term: no, Body: body}}
}

func del(name string) impl.Deed {
	return impl.Deed{Kind: impl.DeDel, Item: impl.Item{Name: name}}
}

func copyOf(b impl.Book) impl.Book {
	return impl.Book{Conf: b.Conf, Terms: slices.Clone(b.Terms), Items: slices.Clone(b.Items)}
}

// slowPut goes along the items till one is of that Name, or behind it.
func slowPut(b impl.Book, i impl.Item) impl.BookOut {
	at := 0
	for at < len(b.Items) && b.Items[at].Name < i.Name {
		at++
	}
	there := at < len(b.Items) && b.Items[at].Name == i.Name
	switch {
	case i.Term > int64(len(b.Terms)):
		return impl.BookOut{Code: impl.ErrNone}
	case there:
		b.Items[at] = i
	case len(b.Items) == 8:
		return impl.BookOut{Code: impl.ErrFull}
	default:
		b.Items = slices.Insert(b.Items, at, i)
	}
	return impl.BookOut{Book: b}
}

func slowDel(b impl.Book, name string) impl.BookOut {
	for at, i := range b.Items {
		if i.Name == name {
			b.Items = slices.Delete(b.Items, at, at+1)
			return impl.BookOut{Book: b}
		}
	}
	return impl.BookOut{Code: impl.ErrNone}
}

func slowBookDo(b impl.Book, d impl.Deed) impl.BookOut {
	if !slowBookRight(b) || !slowDeedRight(d) {
		return impl.BookOut{Code: impl.ErrForm}
	}
	b = copyOf(b)
	zero := len(b.Terms) == 0
	switch {
	case zero && d.Kind == 1:
		return impl.BookOut{Book: impl.Book{Conf: d.Conf, Terms: []impl.Term{{No: 1, Locked: "x"}}}}
	case zero:
		return impl.BookOut{Code: impl.ErrState}
	case d.Kind == 1:
		b.Conf = d.Conf
	case d.Kind == 2 && d.Term.No > int64(len(b.Terms)+1):
		return impl.BookOut{Code: impl.ErrNone}
	case d.Kind == 2:
		b.Terms = append(b.Terms[:d.Term.No-1], append([]impl.Term{d.Term}, b.Terms[min(int(d.Term.No), len(b.Terms)):]...)...)
	case d.Kind == 3:
		return slowPut(b, d.Item)
	case d.Kind == 4:
		return slowDel(b, d.Item.Name)
	}
	return impl.BookOut{Book: b}
}

func TestBookDoConf(t *testing.T) {
	c := conf(1, 2, 3, 7)
	first := impl.Book{Conf: c.Conf, Terms: []impl.Term{{No: 1, Locked: "x"}}}
	wantDone(t, "of a zero book", impl.Book{}, c, impl.BookOut{Book: first})
	wantDone(t, "of a zero book with empty lists", impl.Book{Terms: []impl.Term{}, Items: []impl.Item{}}, c, impl.BookOut{Book: first})
	other := conf(999, 10, 20, 4294967295)
	wantDone(t, "of one that is not zero", first, other, impl.BookOut{Book: impl.Book{Conf: other.Conf, Terms: first.Terms}})
	full := impl.Book{Conf: someConf(), Terms: termsOf(5), Items: itemsOf(5, eightNames()...)}
	wantDone(t, "of a full one", full, c, impl.BookOut{Book: impl.Book{Conf: c.Conf, Terms: full.Terms, Items: full.Items}})
	wantDone(t, "Gen may be less", full, conf(1, 1, 1, 0), impl.BookOut{Book: impl.Book{Conf: impl.Conf{Gen: 1, Need: 1, Many: 1}, Terms: full.Terms, Items: full.Items}})
	wantDone(t, "as it is", full, impl.Deed{Kind: 1, Conf: full.Conf}, impl.BookOut{Book: full})
}

func TestBookDoTerm(t *testing.T) {
	for many := 1; many <= 5; many++ {
		b := impl.Book{Conf: someConf(), Terms: termsOf(many), Items: itemsOf(many, "a", "b", "c")}
		for no := 1; no <= 5; no++ {
			d := term(int64(no), "new")
			want := copyOf(b)
			switch {
			case no <= many:
				want.Terms[no-1].Locked = "new"
			case no == many+1:
				want.Terms = append(want.Terms, d.Term)
			default:
				wantDoCode(t, "more than one behind", b, d, impl.ErrNone)
				continue
			}
			wantDone(t, "in its place, or behind the others", b, d, impl.BookOut{Book: want})
		}
		wantDoCode(t, "No 6", b, term(6, "new"), impl.ErrForm)
		wantDoCode(t, "No 0", b, term(0, "new"), impl.ErrForm)
	}
}

func TestBookDoPut(t *testing.T) {
	b := impl.Book{Conf: someConf(), Terms: termsOf(2), Items: itemsOf(2, "b", "d", "dd")}
	for name, at := range map[string]int{"a": 0, "aaaaaaaa": 0, "ba": 1, "c": 1, "czzzzzzz": 1, "da": 2, "dczzzzzz": 2, "dda": 3, "e": 3, "z": 3} {
		want := copyOf(b)
		want.Items = slices.Insert(want.Items, at, impl.Item{Name: name, Term: 2, Body: "new"})
		wantDone(t, "a new one", b, put(name, 2, "new"), impl.BookOut{Book: want})
	}
	for at, i := range b.Items {
		want := copyOf(b)
		want.Items[at] = impl.Item{Name: i.Name, Term: 1, Body: "new"}
		wantDone(t, "in place of an old one", b, put(i.Name, 1, "new"), impl.BookOut{Book: want})
	}
	for terms := 1; terms <= 5; terms++ {
		b := impl.Book{Conf: someConf(), Terms: termsOf(terms), Items: itemsOf(terms, "b")}
		for no := 1; no <= 5; no++ {
			for _, name := range []string{"a", "b"} {
				if no > terms {
					wantDoCode(t, "no such term", b, put(name, int64(no), "new"), impl.ErrNone)
				} else {
					wantDone(t, "of such a term", b, put(name, int64(no), "new"), slowPut(copyOf(b), impl.Item{Name: name, Term: int64(no), Body: "new"}))
				}
			}
		}
	}
}

func TestBookDoPutInAFullBook(t *testing.T) {
	full := impl.Book{Conf: someConf(), Terms: termsOf(3), Items: itemsOf(3, eightNames()...)}
	for _, name := range []string{"a", "c", "ha", "n", "zza", "zzzzzzzz"} {
		wantDoCode(t, "a ninth", full, put(name, 3, "new"), impl.ErrFull)
		wantDoCode(t, "a ninth of no term", full, put(name, 4, "new"), impl.ErrNone)
		wantDoCode(t, "a ninth with no Body", full, put(name, 3, ""), impl.ErrForm)
		seven := copyOf(full)
		seven.Items = seven.Items[:7]
		wantDone(t, "an eighth", seven, put(name, 3, "new"), slowPut(copyOf(seven), impl.Item{Name: name, Term: 3, Body: "new"}))
	}
	for at, name := range eightNames() {
		want := copyOf(full)
		want.Items[at] = impl.Item{Name: name, Term: 2, Body: "new"}
		wantDone(t, "in place of an old one", full, put(name, 2, "new"), impl.BookOut{Book: want})
		wantDoCode(t, "an old one of no term", full, put(name, 4, "new"), impl.ErrNone)
	}
}

func TestBookDoDel(t *testing.T) {
	for many := range 9 {
		b := impl.Book{Conf: someConf(), Terms: termsOf(2), Items: itemsOf(2, eightNames()[:many]...)}
		for at, name := range eightNames() {
			if at >= many {
				wantDoCode(t, "none of that Name", b, del(name), impl.ErrNone)
				continue
			}
			want := copyOf(b)
			want.Items = slices.Delete(want.Items, at, at+1)
			wantDone(t, "it goes", b, del(name), impl.BookOut{Book: want})
		}
		for _, name := range []string{"a", "bb", "hhh", "z", "zzz"} {
			wantDoCode(t, "none of that Name", b, del(name), impl.ErrNone)
		}
	}
}

// Where two codes would fit, it is the first that is named.
func TestBookDoFirstCode(t *testing.T) {
	full := impl.Book{Conf: someConf(), Terms: termsOf(2), Items: itemsOf(2, eightNames()...)}
	bad := []impl.Book{{Conf: someConf()}, {Terms: termsOf(1)}, {Items: itemsOf(1, "a")}, {Conf: someConf(), Terms: termsOf(2), Items: itemsOf(1, "b", "a")}, {Conf: conf(0, 2, 3, 7).Conf, Terms: termsOf(2)}}
	for _, d := range []impl.Deed{conf(1, 2, 3, 7), term(1, "k"), term(5, "k"), put("a", 1, "v"), put("a", 5, "v"), del("a"), del("b")} {
		for _, b := range bad {
			wantDoCode(t, "a book that is not right", b, d, impl.ErrForm)
		}
	}
	for _, d := range []impl.Deed{{}, {Kind: 5}, {Kind: -1}, conf(0, 2, 3, 7), conf(1, 3, 2, 7), term(0, "k"), term(6, "k"), term(2, ""), put("", 1, "v"), put("A", 1, "v"), put("a", 6, "v"), put("a", 0, "v"), put("a", 1, ""), del(""), del("abcdefghi")} {
		for _, b := range append(bad, impl.Book{}, full) {
			wantDoCode(t, "a deed that is not right", b, d, impl.ErrForm)
		}
	}
	for _, d := range []impl.Deed{term(1, "k"), term(2, "k"), term(5, "k"), put("a", 1, "v"), put("a", 5, "v"), del("a")} {
		wantDoCode(t, "a zero book", impl.Book{}, d, impl.ErrState)
	}
	wantDoCode(t, "no such term, and full", full, put("a", 3, "v"), impl.ErrNone)
	wantDoCode(t, "full", full, put("a", 2, "v"), impl.ErrFull)
}

func TestBookDoOfManyDeeds(t *testing.T) {
	codes := map[int64]int{}
	for _, b := range someBooks() {
		for _, d := range manyDeeds() {
			want := slowBookDo(b, d)
			wantDone(t, "of all", b, d, want)
			codes[want.Code]++
		}
	}
	for _, code := range []int64{impl.OK, impl.ErrForm, impl.ErrState, impl.ErrNone, impl.ErrFull} {
		if codes[code] < 30 {
			t.Errorf("code %d is told just %d times", code, codes[code])
		}
	}
	for _, b := range oddBooks() {
		for _, d := range []impl.Deed{conf(1, 2, 3, 7), term(1, "k"), put("a", 1, "v"), del("a"), {}} {
			wantDone(t, "of odd books", b, d, slowBookDo(b, d))
		}
	}
}

// deedBy is a right deed, chosen by a number.
func deedBy(n uint32) impl.Deed {
	names := []string{"a", "b", "c", "d", "e", "f", "g", "h", "i", "j", "aa", "zz"}
	name, no := names[n/16%12], int64(n/256%5)+1
	switch n % 16 {
	case 0:
		return conf(int64(n/512%999)+1, 2, 3, int64(n/1024))
	case 1, 2, 3:
		return term(no, someLocked()[n/2048%9])
	case 4, 5, 6:
		return del(name)
	}
	return put(name, no, someBodies()[n/2048%10])
}

// Promise 8: a right book stays right, whatever deeds are done.
func TestRightBookStaysRight(t *testing.T) {
	done := map[int64]int{}
	n := uint32(1)
	for range 40 {
		b := impl.Book{}
		for range 200 {
			n = n*1664525 + 1013904223
			d := deedBy(n >> 4)
			out := impl.BookDo(b, d)
			if want := slowBookDo(b, d); out.Code != want.Code || !sameBook(out.Book, want.Book) {
				t.Fatalf("BookDo(%+v, %+v): got %+v, want %+v", b, d, out, want)
			}
			if !impl.BookRight(out.Book) || !slowBookRight(out.Book) {
				t.Fatalf("%+v is not right any more, by %+v", out.Book, d)
			}
			done[out.Code]++
			if out.Code == impl.OK {
				b = out.Book
			}
		}
	}
	if done[impl.OK] < 2000 || done[impl.ErrState] < 40 || done[impl.ErrNone] < 500 || done[impl.ErrFull] < 200 {
		t.Errorf("too few of each code: %v", done)
	}
}

func TestRightBooksStayRightByEachDeed(t *testing.T) {
	for _, b := range someBooks() {
		for _, d := range manyDeeds() {
			if out := impl.BookDo(b, d); !slowBookRight(out.Book) || !impl.BookRight(out.Book) {
				t.Errorf("%+v is not right any more, by %+v", out.Book, d)
			}
		}
	}
}

func TestBookStaysAsItWas(t *testing.T) {
	noTerm, noItem := impl.Term{No: 77, Locked: "fill"}, impl.Item{Name: "fill", Term: 77, Body: "fill"}
	for _, was := range someBooks() {
		for _, d := range append(rightDeeds(), impl.Deed{}, del("b"), put("b", 1, "v"), put("zzzz", 1, "v")) {
			b := impl.Book{Conf: was.Conf, Terms: withRoom(was.Terms, noTerm), Items: withRoom(was.Items, noItem)}
			out := impl.BookDo(b, d)
			want := slowBookDo(was, d)
			wantAsItWas(t, "terms", b.Terms, was.Terms, noTerm)
			wantAsItWas(t, "items", b.Items, was.Items, noItem)
			overwrite(b.Terms, noTerm)
			overwrite(b.Items, noItem)
			wantBook(t, "when what was handed in changes", out.Book, want.Book)
			b = impl.Book{Conf: was.Conf, Terms: withRoom(was.Terms, noTerm), Items: withRoom(was.Items, noItem)}
			out = impl.BookDo(b, d)
			overwrite(out.Book.Terms, noTerm)
			overwrite(out.Book.Items, noItem)
			wantAsItWas(t, "terms, when what was told changes", b.Terms, was.Terms, noTerm)
			wantAsItWas(t, "items, when what was told changes", b.Items, was.Items, noItem)
			wantDone(t, "again", was, d, want)
		}
	}
}

// textsOf are all texts in a book.
func textsOf(b impl.Book) []string {
	var out []string
	for _, x := range b.Terms {
		out = append(out, x.Locked)
	}
	for _, x := range b.Items {
		out = append(out, x.Name, x.Body)
	}
	return out
}

func TestBooksAreNewMemory(t *testing.T) {
	full := impl.Book{Conf: someConf(), Terms: termsOf(5), Items: itemsOf(5, "aa", "bb", "cc", "dd", "ee", "ff", "gg")}
	for _, d := range []impl.Deed{conf(1, 2, 3, 7), term(2, "locked"), put("ac", 1, "a body"), put("cc", 1, "a body"), del("bb")} {
		for _, told := range textsOf(impl.BookDo(full, d).Book) {
			for _, given := range append(textsOf(full), d.Term.Locked, d.Item.Name, d.Item.Body) {
				if shareMemory(told, given) {
					t.Errorf("behind %+v %q shares memory", d, told)
				}
			}
		}
	}
}
