package tests

import (
	"slices"
	"strings"
	"testing"

	"loop.example/g00839/impl"
)

// pairsOf are pairs of names and texts, one behind the other.
func pairsOf(namesAndTexts ...string) []impl.Pair {
	var out []impl.Pair
	for i := 0; i < len(namesAndTexts); i += 2 {
		out = append(out, impl.Pair{Name: namesAndTexts[i], Text: namesAndTexts[i+1]})
	}
	return out
}

func wantPairs(t *testing.T, what string, got []impl.Pair, want []impl.Pair) {
	t.Helper()
	if !slices.Equal(got, want) {
		t.Errorf("%s: got %+q, want %+q", what, got, want)
	}
}

// slowPairs is what is in a vault: the items of its book, opened byte by byte.
func slowPairs(v impl.Vault, master string) []impl.Pair {
	var out []impl.Pair
	if !slowVaultRight(v) || !among(int64(len(master)), 1, 16) || trueCrc("check "+master) != v.Book.Conf.Check {
		return nil
	}
	for _, i := range v.Book.Items {
		key := slowKey(master, v.Book.Terms[i.Term-1])
		text := make([]byte, len(i.Body))
		for k := range text {
			text[k] = i.Body[k] ^ key[k%len(key)]
		}
		out = append(out, impl.Pair{Name: i.Name, Text: string(text)})
	}
	return out
}

// someMasters are those of the held vaults, others, and such as can be none.
func someMasters() []string {
	return []string{"master", "mastes", "Master", "maste", "master\x00", "m", "\x00", "\xff", "\x00\xffkey\x80", "ends", "other", someText(16), someText(15), checkIsNought,
		"", someText(17), someText(200), someText(impl.MaxBytes), someText(impl.MaxBytes + 1)}
}

func TestDataKnown(t *testing.T) {
	lists := [][]impl.Deed{{put("zz", 1, "\x02\x0a")}, {term(2, "k")}, {put("a", 2, "@]"), put("b", 1, "abcdef")}}
	h := handMade("\x01\x02", impl.Conf{Gen: 1, Need: 1, Many: 1}, lists...)
	// The key of term 1 is \x07Key by \x02\x01\x02\x01, which is \x05Jgx; that of term 2 is k by \x01, which is j.
	want := pairsOf("a", "*7", "b", "d(\x04\x1c`,", "zz", "\x07@")
	wantPairs(t, "open", impl.Data(h.vault, "\x01\x02"), want)
	wantPairs(t, "sealed", impl.Data(h.closed().vault, "\x01\x02"), want)
	wantPairs(t, "another master", impl.Data(h.vault, "\x01\x03"), nil)
	wantPairs(t, "it, turned around", impl.Data(h.vault, "\x02\x01"), nil)
}

// What was put by some data, as long as it is there.
func dataPut() []impl.Pair {
	return pairsOf("aa", "\x00\xff\x80", "b", "b anew", "fill", "f", "zz", someText(20))
}

func TestDataOfWhatWasPut(t *testing.T) {
	for _, master := range []string{"m", "\x00", "\xff\xff", "master", "\x00\xffkey\x80", checkIsNought, someText(15), someText(16)} {
		h := begun(master, 2, 3).opened()
		wantPairs(t, "no items", impl.Data(h.vault, master), nil)
		wantPairs(t, "no items, sealed", impl.Data(h.closed().vault, master), nil)
		one := h.by(putOp("a", "hello"))
		wantPairs(t, "one", impl.Data(one.vault, master), pairsOf("a", "hello"))
		wantPairs(t, "one, sealed", impl.Data(one.closed().vault, master), pairsOf("a", "hello"))
		h = h.by(someData()...)
		for _, v := range []impl.Vault{h.vault, h.closed().vault, h.closed().given(1).vault, h.by(rekeyOp(2, 2)).vault, h.by(rekeyOp(2, 2)).parted(2, someDraws(16, 1)).vault, h.by(impl.Op{Kind: impl.OpSeal}).vault, h.at(impl.MaxTime).vault} {
			wantPairs(t, "some", impl.Data(v, master), dataPut())
			for _, other := range []string{master + "x", "x" + master, master[1:], strings.Repeat("z", len(master)), "mastfr"} {
				wantPairs(t, "another master", impl.Data(v, other), nil)
			}
		}
	}
}

// Eight items of five terms, put, deleted, and put again by another term.
func TestDataOfAllTerms(t *testing.T) {
	h := begun("master", 2, 3).opened()
	var want []impl.Pair
	for i, name := range eightNames() {
		text := someText(20)[:1+i*2]
		h = h.by(putOp(name, text))
		if i%2 == 1 {
			h = h.by(turnOp(someDraws(4, i)))
		}
		want = append(want, impl.Pair{Name: name, Text: text})
		slices.SortFunc(want, func(a impl.Pair, b impl.Pair) int { return strings.Compare(a.Name, b.Name) })
		wantPairs(t, "more and more", impl.Data(h.vault, "master"), want)
	}
	if len(h.vault.Book.Terms) != 5 || len(h.vault.Book.Items) != 8 {
		t.Fatalf("there are %d terms, %d items", len(h.vault.Book.Terms), len(h.vault.Book.Items))
	}
	for i := range want {
		want[i].Text = "anew " + want[i].Name
		h = h.by(putOp(want[i].Name, want[i].Text))
		wantPairs(t, "put anew", impl.Data(h.closed().vault, "master"), want)
	}
	for len(want) > 0 {
		at := len(want) * 2 / 3
		h = h.by(named(impl.OpDel, want[at].Name))
		want = slices.Delete(want, at, at+1)
		wantPairs(t, "deleted", impl.Data(h.vault, "master"), want)
	}
}

func TestDataOfManyVaults(t *testing.T) {
	told := 0
	for _, v := range rightVaults() {
		for _, master := range someMasters() {
			want := slowPairs(v, master)
			wantPairs(t, vaultName(v)+" by "+clip(master), impl.Data(v, master), want)
			if told += len(want); !v.Open || master != v.Master {
				continue
			}
			var names []string
			for _, p := range want {
				names = append(names, p.Name)
				wantTold(t, "OpGet tells the same", v, named(impl.OpGet, p.Name), p.Text, v)
			}
			wantTold(t, "OpList tells the same", v, impl.Op{Kind: impl.OpList}, strings.Join(names, ","), v)
		}
	}
	if told < 100 {
		t.Errorf("just %d pairs were to be told", told)
	}
}

// A master of no right length opens nothing, even if the Check were that of the CRC.
func TestDataOfMastersOfNoRightLength(t *testing.T) {
	for _, master := range []string{"", someText(17), someText(32), someText(impl.MaxBytes - 6), someText(impl.MaxBytes), someText(impl.MaxBytes + 1)} {
		h := handMade(master, impl.Conf{Gen: 1, Need: 2, Many: 3}, []impl.Deed{put("a", 1, "v")}).closed()
		if !impl.VaultRight(h.vault) {
			t.Fatalf("%s is right", vaultName(h.vault))
		}
		wantPairs(t, "no right length", impl.Data(h.vault, master), nil)
	}
	for _, size := range []int{1, 16} {
		h := handMade(someText(size), impl.Conf{Gen: 1, Need: 2, Many: 3}).by(putOp("a", "v"))
		wantPairs(t, "just right", impl.Data(h.closed().vault, someText(size)), pairsOf("a", "v"))
	}
}

// Two masters of one Check: what is told is what was put, as it would be opened by that one.
func TestDataOfAnotherMasterOfThatCheck(t *testing.T) {
	master := []byte("\x00\xffkey\x80")
	h := begun(string(master), 2, 3).opened().by(someData()...)
	for i, b := range []byte("\x41\x06\x71\xdb\x01") {
		master[i] ^= b
	}
	other := behind(h.vault, func(v *impl.Vault) { v.Master = string(master) })
	if !impl.VaultRight(other) {
		t.Fatalf("%q has another Check", master)
	}
	for _, v := range []impl.Vault{h.vault, h.closed().vault, other} {
		wantPairs(t, "its own", impl.Data(v, h.master), dataPut())
		var want []impl.Pair
		for _, p := range dataPut() {
			want = append(want, impl.Pair{Name: p.Name, Text: impl.Do(other, named(impl.OpGet, p.Name)).Text})
		}
		wantPairs(t, "the other one", impl.Data(v, string(master)), want)
		if slices.Equal(want, dataPut()) {
			t.Errorf("both masters open alike")
		}
	}
}

func TestDataOfNoRightVault(t *testing.T) {
	for _, w := range wrongVaults() {
		for _, master := range []string{"master", "m", "\x00\xffkey\x80", w.vault.Master} {
			wantPairs(t, w.what, impl.Data(w.vault, master), nil)
		}
	}
	for _, v := range []impl.Vault{{}, {Nonce: 3}, {Nonce: impl.MaxTime}} {
		for _, master := range someMasters() {
			wantPairs(t, "one that has not begun", impl.Data(v, master), nil)
		}
	}
}

func pairTexts(l []impl.Pair) []string {
	var out []string
	for _, p := range l {
		out = append(out, p.Name, p.Text)
	}
	return out
}

// wantTextsApart asks that no text that is told shares memory with one that was handed in.
func wantTextsApart(t *testing.T, what string, told []string, given []string) {
	t.Helper()
	for _, a := range told {
		for _, b := range given {
			if shareMemory(a, b) {
				t.Errorf("%s: %q shares memory with what was handed in", what, clip(a))
			}
		}
	}
}

func TestDataLeavesAndSharesNothing(t *testing.T) {
	fill := impl.Pair{Name: "room", Text: "room"}
	for _, h := range heldOnes() {
		v := roomyVault(h.vault)
		got := impl.Data(v, h.master)
		wantVaultAsItWas(t, "Data", v, h.vault)
		wantTextsApart(t, "Data", pairTexts(got), append(vaultTexts(impl.VaultOut{Vault: v}), h.master))
		want := slices.Clone(got)
		overwriteVault(v)
		wantPairs(t, "when what was handed in changes", got, want)
		v = roomyVault(h.vault)
		got = impl.Data(v, h.master)
		overwrite(got, fill)
		wantVaultAsItWas(t, "when what was told changes", v, h.vault)
		wantPairs(t, "asked again", impl.Data(v, h.master), want)
	}
}
