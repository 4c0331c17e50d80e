package tests

import (
	"fmt"
	"math"
	"testing"

	"loop.example/g00839/impl"
)

func wantTorn(t *testing.T, what string, v impl.Vault, o impl.Op, keep int64, want impl.VaultOut) {
	t.Helper()
	if got := impl.Torn(v, o, keep); !sameOut(got, want) {
		wantOut(t, fmt.Sprintf("%s: Torn(%s, %s, %d)", what, vaultName(v), opName(o), keep), got, want)
	}
}

// tornKeeps are all numbers of bytes that may be kept of so many, some beyond both ends, and the ends of int64.
func tornKeeps(appended int) []int64 {
	out := []int64{math.MinInt64, math.MinInt64 + 1, -1 << 32, -1<<32 + 1, 1 << 32, math.MaxInt64 - 1, math.MaxInt64}
	for keep := int64(-3); keep <= int64(appended)+3; keep++ {
		out = append(out, keep)
	}
	return out
}

// writers are an op of each kind that writes something, to a vault that takes it, and how many bytes these are.
func writers() []asked {
	h := begun("master", 2, 3)
	data := h.opened().by(someData()...)
	part := data.by(rekeyOp(2, 3)).parted(1, "")
	return []asked{{impl.Vault{}, initOp("master", 2, 3, someDraws(10, 1))}, {impl.Vault{Nonce: 5}, initOp("m", 1, 1, "draws")}, {impl.Vault{Nonce: impl.MaxTime}, initOp(someText(16), 10, 20, someDraws(148, 1))},
		{h.opened().vault, putOp("a", "v")}, {data.vault, putOp("b", "w")}, {data.vault, putOp("abcdefgh", someText(20))}, {data.at(impl.MaxTime).vault, putOp("b", "w")}, {data.filled(12).vault, putOp("b", "w")},
		{data.vault, named(impl.OpDel, "b")}, {data.vault, named(impl.OpDel, "zz")}, {data.filled(12).vault, named(impl.OpDel, "zz")}, {data.vault, turnOp("draws")}, {h.opened().vault, turnOp("\x00\x00\x00\x00")},
		{part.vault, partOp(part.vault, part.envs[0], someDraws(6, 1))}, {part.at(impl.MaxTime).vault, partOp(part.at(impl.MaxTime).vault, part.envs[0], someDraws(6, 1))}}
}

// What is kept of what was appended is all of it, or it is as if nothing were: at each keep.
func TestTornOfWhatIsWritten(t *testing.T) {
	for _, a := range writers() {
		done := slowDo(a.vault, a.op).Vault
		appended := len(done.Disk.Safe) - len(a.vault.Disk.Safe)
		if appended < 9 {
			t.Fatalf("%s appends %d bytes", opName(a.op), appended)
		}
		for _, keep := range tornKeeps(appended) {
			whole := a.vault
			if keep >= int64(appended) {
				whole = done
			}
			want := impl.Vault{Disk: whole.Disk, Book: whole.Book, Nonce: min(a.vault.Nonce+1, impl.MaxTime)}
			wantTorn(t, "of what is written", a.vault, a.op, keep, impl.VaultOut{Vault: want})
		}
	}
}

// Ops that write nothing, be they done or refused: it is as behind a reboot, and no code is told.
func TestTornOfNothingWritten(t *testing.T) {
	for _, h := range heldOnes() {
		for _, o := range manyOps(h) {
			out := slowDo(h.vault, o)
			if out.Vault.Disk != h.vault.Disk || !slowOpRight(o) {
				continue
			}
			want := impl.Vault{Disk: h.vault.Disk, Book: h.vault.Book, Nonce: min(h.vault.Nonce+1, impl.MaxTime)}
			for _, keep := range []int64{-1, 5} {
				wantTorn(t, "nothing is written", h.vault, o, keep, impl.VaultOut{Vault: want})
			}
		}
	}
}

func TestTornOfEachKind(t *testing.T) {
	kinds := map[int64]int{}
	for _, h := range heldOnes() {
		for _, o := range oneOfEach() {
			o.Nonce = h.vault.Nonce
			appended := len(slowDo(h.vault, o).Vault.Disk.Safe) - len(h.vault.Disk.Safe)
			for _, keep := range []int64{math.MinInt64, -1, 0, 1, int64(appended) - 1, int64(appended), int64(appended) + 1, math.MaxInt64} {
				wantTorn(t, "each kind", h.vault, o, keep, slowTorn(h.vault, o, keep))
			}
			kinds[o.Kind]++
		}
	}
	if len(kinds) != 12 {
		t.Errorf("these kinds were torn: %v", kinds)
	}
}

// Torn again and again, it takes up what is done anew.
func TestTornAgainAndAgain(t *testing.T) {
	h := begun("master", 2, 3).opened().by(putOp("a", "first"))
	size := len(slowTx(put("a", 1, "12345")))
	for i := range 30 {
		text := fmt.Sprintf("try%02d", i)
		torn := impl.Torn(h.vault, putOp("a", text), int64(i%(size+1)))
		h.vault = torn.Vault
		if !impl.VaultRight(h.vault) || h.vault.Open {
			t.Fatalf("torn %d times: %s", i+1, vaultName(h.vault))
		}
		h = h.opened()
		want := "first"
		if i >= size {
			want = fmt.Sprintf("try%02d", size)
		}
		if got := impl.Do(h.vault, named(impl.OpGet, "a")).Text; got != want {
			t.Errorf("torn %d times: got %q, want %q", i+1, got, want)
		}
		if i == size {
			h = h.by(putOp("a", want))
		}
	}
}

func TestDoAll(t *testing.T) {
	h := begun("master", 2, 3)
	data := h.opened().by(someData()...)
	for _, v := range append(rightVaults(), impl.Vault{}) {
		wantOut(t, "none", impl.DoAll(v, nil), impl.VaultOut{Vault: v})
		wantOut(t, "none", impl.DoAll(v, []impl.Op{}), impl.VaultOut{Vault: v})
	}
	for _, h := range heldOnes() {
		for _, o := range manyOps(h) {
			if want := slowDoAll(h.vault, []impl.Op{o}); !sameOut(impl.DoAll(h.vault, []impl.Op{o}), want) {
				wantOut(t, "one: "+opName(o), impl.DoAll(h.vault, []impl.Op{o}), want)
			}
		}
	}
	all := []impl.Op{initOp("master", 2, 3, someDraws(10, 9)), giveOp(h.vault, h.envs[2]), giveOp(h.vault, h.envs[0]), putOp("a", "v"), turnOp("draws"), putOp("b", "w"), named(impl.OpDel, "a"), {Kind: impl.OpList}}
	for many := range len(all) + 1 {
		if got, want := impl.DoAll(impl.Vault{}, all[:many]), slowDoAll(impl.Vault{}, all[:many]); !sameOut(got, want) || many > 0 && got.Code != impl.OK {
			wantOut(t, fmt.Sprintf("the first %d", many), got, want)
		}
	}
	if got := impl.DoAll(impl.Vault{}, all); got.Text != "b" || !got.Vault.Open {
		t.Errorf("got %q, %s", got.Text, vaultName(got.Vault))
	}
	wantOut(t, "the last one is refused", impl.DoAll(data.vault, []impl.Op{putOp("q", "v"), named(impl.OpGet, "none")}), impl.VaultOut{Vault: slowDo(data.vault, putOp("q", "v")).Vault, Code: impl.ErrNone})
	wantOut(t, "one ahead is refused", impl.DoAll(data.vault, []impl.Op{named(impl.OpGet, "none"), putOp("q", "v")}), slowDo(data.vault, putOp("q", "v")))
}

// An op that is not right, wherever it stands, turns nothing; as the last one it tells ErrForm.
func TestDoAllOfWrongOps(t *testing.T) {
	data := begun("master", 2, 3).opened().by(someData()...)
	put := putOp("q", "v")
	behind := slowDo(data.vault, put)
	for _, wrong := range append(wrongOps()[:30], impl.Op{}, impl.Op{Kind: impl.OpPut, Name: "q", Text: someText(201)}) {
		wantOut(t, "alone", impl.DoAll(data.vault, []impl.Op{wrong}), impl.VaultOut{Vault: data.vault, Code: impl.ErrForm})
		wantOut(t, "at first", impl.DoAll(data.vault, []impl.Op{wrong, put}), behind)
		wantOut(t, "at last", impl.DoAll(data.vault, []impl.Op{put, wrong}), impl.VaultOut{Vault: behind.Vault, Code: impl.ErrForm})
		wantOut(t, "between", impl.DoAll(data.vault, []impl.Op{{Kind: impl.OpSeal}, wrong, put}), impl.VaultOut{Vault: slowDo(data.vault, impl.Op{Kind: impl.OpSeal}).Vault, Code: impl.ErrSealed})
	}
}

func TestDoAllLong(t *testing.T) {
	var l []impl.Op
	for i := range impl.MaxList + 1 {
		l = append(l, []impl.Op{{Kind: impl.OpReboot}, {Kind: impl.OpList}, {Kind: 77}}[i%3])
	}
	h := begun("master", 2, 3).at(3)
	for _, many := range []int{impl.MaxList - 1, impl.MaxList} {
		wantOut(t, "many", impl.DoAll(h.vault, l[:many]), slowDoAll(h.vault, l[:many]))
		if n := impl.DoAll(h.vault, l[:many]).Vault.Nonce; n != int64(3+(many+2)/3) {
			t.Errorf("%d ops: the time is %d", many, n)
		}
	}
	wantOut(t, "401", impl.DoAll(h.vault, l), impl.VaultOut{Code: impl.ErrSize})
	wantOut(t, "401 of a vault that is not right", impl.DoAll(h.at(-1).vault, l), impl.VaultOut{Code: impl.ErrSize})
	wantOut(t, "very many", impl.DoAll(h.vault, make([]impl.Op, 5000)), impl.VaultOut{Code: impl.ErrSize})
}
