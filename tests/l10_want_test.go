package tests

import (
	"fmt"
	"maps"
	"math"
	"slices"
	"testing"

	"loop.example/g00839/impl"
)

// slowWant keeps the pairs in a map.
func slowWant(l []impl.Pair, o impl.Op) []impl.Pair {
	texts := map[string]string{}
	for _, p := range l {
		texts[p.Name] = p.Text
	}
	switch o.Kind {
	case impl.OpPut:
		texts[o.Name] = o.Text
	case impl.OpDel:
		delete(texts, o.Name)
	}
	var out []impl.Pair
	for _, name := range slices.Sorted(maps.Keys(texts)) {
		out = append(out, impl.Pair{Name: name, Text: texts[name]})
	}
	return out
}

func TestWantKnown(t *testing.T) {
	three := pairsOf("b", "1", "d", "2", "f", "3")
	for _, c := range []struct {
		what string
		l    []impl.Pair
		op   impl.Op
		want []impl.Pair
	}{
		{"of none", nil, putOp("a", "v"), pairsOf("a", "v")},
		{"of an empty list", []impl.Pair{}, putOp("a", "v"), pairsOf("a", "v")},
		{"of none, deleted", nil, named(impl.OpDel, "a"), nil},
		{"ahead of all", three, putOp("a", "v"), pairsOf("a", "v", "b", "1", "d", "2", "f", "3")},
		{"in the first place", three, putOp("b", "v"), pairsOf("b", "v", "d", "2", "f", "3")},
		{"between", three, putOp("c", "v"), pairsOf("b", "1", "c", "v", "d", "2", "f", "3")},
		{"in its place", three, putOp("d", "v"), pairsOf("b", "1", "d", "v", "f", "3")},
		{"just behind one that begins it", three, putOp("da", "v"), pairsOf("b", "1", "d", "2", "da", "v", "f", "3")},
		{"in the last place", three, putOp("f", "v"), pairsOf("b", "1", "d", "2", "f", "v")},
		{"behind all", three, putOp("g", "v"), pairsOf("b", "1", "d", "2", "f", "3", "g", "v")},
		{"the same again", three, putOp("d", "2"), three},
		{"the first goes", three, named(impl.OpDel, "b"), pairsOf("d", "2", "f", "3")},
		{"one between goes", three, named(impl.OpDel, "d"), pairsOf("b", "1", "f", "3")},
		{"the last goes", three, named(impl.OpDel, "f"), pairsOf("b", "1", "d", "2")},
		{"none of that name", three, named(impl.OpDel, "c"), three},
		{"the only one goes", pairsOf("a", "x"), named(impl.OpDel, "a"), nil},
		{"a text of none", three, putOp("d", ""), pairsOf("b", "1", "d", "", "f", "3")},
	} {
		wantPairs(t, c.what, impl.Want(c.l, c.op), c.want)
	}
	wantPairs(t, "what else stands in it", impl.Want(three, impl.Op{Kind: impl.OpDel, Name: "d", Text: "2", Nonce: 7, Need: 3, Many: 1, Draws: "x"}), pairsOf("b", "1", "f", "3"))
}

// oddNames are names that are no words, some of which begin others, or have bytes beyond 127.
func oddNames() []string {
	return []string{"", "\x00", " ", "A", "Z", "_", "a", "a\x00", "a b", "aa", "ab", "abcdefgh", "abcdefghi", "abcdefghij", "b", "z", "zz", "{", "\x80", "\xff", "\xff\x00", someText(20), someText(21), someText(impl.MaxBytes + 1)}
}

// The names rise byte by byte, be they words or not, and whatever the texts are.
func TestWantOfAnyNames(t *testing.T) {
	names := slices.Clone(oddNames())
	slices.Sort(names)
	for bits := range 1 << 10 {
		var l []impl.Pair
		for i := 0; i < 10; i++ {
			if bits>>i&1 == 1 {
				l = append(l, impl.Pair{Name: names[i*2+bits%3], Text: fmt.Sprint(i)})
			}
		}
		for _, name := range names {
			for _, o := range []impl.Op{putOp(name, "anew"), named(impl.OpDel, name)} {
				if got, want := impl.Want(l, o), slowWant(l, o); !slices.Equal(got, want) {
					t.Fatalf("of %q by %s: got %q, want %q", l, opName(o), got, want)
				}
			}
		}
	}
	for _, text := range []string{"", "v", "\x00\xff", someText(20), someText(21), someText(201), someText(impl.MaxBytes + 1)} {
		wantPairs(t, "any text", impl.Want(pairsOf("a", "1", "c", text), putOp("b", text)), pairsOf("a", "1", "b", text, "c", text))
	}
}

// By all other kinds, and by none, pairs are as they are.
func TestWantOfOtherKinds(t *testing.T) {
	lists := [][]impl.Pair{nil, {}, pairsOf("a", "1"), pairsOf("b", "1", "d", "2", "f", "3"), pairsOf("", "", "A", "x", "\xff", "y"), manyPairs(impl.MaxList)}
	kinds := []int64{0, -1, 13, 14, 255, 256 + impl.OpPut, 256 + impl.OpDel, 1<<32 + impl.OpPut, 1<<32 + impl.OpDel, -impl.OpPut, math.MinInt64, math.MinInt64 + impl.OpPut, math.MaxInt64}
	for kind := int64(impl.OpInit); kind <= impl.OpReboot; kind++ {
		if kind != impl.OpPut && kind != impl.OpDel {
			kinds = append(kinds, kind)
		}
	}
	for _, l := range lists {
		for _, kind := range kinds {
			for _, name := range []string{"", "a", "b", "c", "d", "zz", "A"} {
				wantPairs(t, fmt.Sprintf("kind %d", kind), impl.Want(l, impl.Op{Kind: kind, Name: name, Text: "v"}), l)
			}
		}
	}
}

// manyPairs are so many, rising by their names, of which every other number is left out.
func manyPairs(many int) []impl.Pair {
	var out []impl.Pair
	for i := range many {
		out = append(out, impl.Pair{Name: fmt.Sprintf("n%04d", i*2), Text: fmt.Sprint(i)})
	}
	return out
}

func TestWantOfLongLists(t *testing.T) {
	for _, many := range []int{9, 100, impl.MaxList - 1, impl.MaxList} {
		l := manyPairs(many)
		for _, no := range []int{0, 1, 2, 7, many - 1, many, 2*many - 4, 2*many - 3, 2*many - 2, 2*many - 1} {
			for _, kind := range []int64{impl.OpPut, impl.OpDel, impl.OpGet, 0} {
				o := impl.Op{Kind: kind, Name: fmt.Sprintf("n%04d", no), Text: "anew"}
				wantPairs(t, fmt.Sprintf("%d by %s", many, opName(o)), impl.Want(l, o), slowWant(l, o))
			}
		}
		if got := len(impl.Want(l, putOp("a", "v"))); got != many+1 {
			t.Errorf("one more than %d are %d", many, got)
		}
	}
	for _, many := range []int{impl.MaxList + 1, impl.MaxList + 2, 5000} {
		for _, o := range append(oneOfEach(), impl.Op{}, named(impl.OpDel, "n0000")) {
			wantPairs(t, "too many", impl.Want(manyPairs(many), o), nil)
		}
	}
}

func TestWantLeavesAndSharesNothing(t *testing.T) {
	fill := impl.Pair{Name: "room", Text: "room"}
	for _, was := range [][]impl.Pair{nil, {}, pairsOf("b", "one"), pairsOf("b", "one", "d", "two", "f", "three"), manyPairs(20)} {
		for _, kind := range []int64{impl.OpPut, impl.OpDel, impl.OpGet, impl.OpSeal, 77} {
			for _, name := range []string{"aa", "b", "cc", "d", "f", "zz"} {
				o := impl.Op{Kind: kind, Name: name, Text: "anew"}
				l := withRoom(was, fill)
				got := impl.Want(l, o)
				want := slowWant(was, o)
				wantTextsApart(t, opName(o), pairTexts(got), append(pairTexts(l), o.Name, o.Text))
				wantAsItWas(t, opName(o), l, was, fill)
				overwrite(l, fill)
				wantPairs(t, "when what was handed in changes", got, want)
				l = withRoom(was, fill)
				overwrite(impl.Want(l, o), impl.Pair{Name: "over"})
				wantAsItWas(t, "when what was told changes", l, was, fill)
			}
		}
	}
}
