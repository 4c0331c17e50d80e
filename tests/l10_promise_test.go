package tests

import (
	"fmt"
	"maps"
	"slices"
	"testing"

	"loop.example/g00839/impl"
)

// pairs are what was put into a life's vault, and not deleted since.
func (l *life) pairs() []impl.Pair {
	var out []impl.Pair
	for _, name := range slices.Sorted(maps.Keys(l.data)) {
		out = append(out, impl.Pair{Name: name, Text: l.data[name]})
	}
	return out
}

// unlocks asks that so many of the envelopes of now as are needed open it, whichever, in whatever order, and fewer do not; and
// that what is in it is what was put, and not deleted since, be it sealed or open.
func (l *life) unlocks(t *testing.T) {
	t.Helper()
	v := impl.Do(l.vault, impl.Op{Kind: impl.OpReboot}).Vault
	var given []impl.Env
	for _, x := range l.rand.Perm(len(l.envs)) {
		given = append(given, l.envs[x])
	}
	for many := range len(given) + 1 {
		out := impl.Unlock(v, given[:many])
		enough := int64(many) >= v.Book.Conf.Need
		if out.Code != impl.OK || out.Vault.Open != enough || enough != (out.Text == "open") || enough != (out.Vault.Master == l.master) {
			t.Fatalf("by %d of %d envelopes: code %d, %q, %s", many, len(given), out.Code, out.Text, vaultName(out.Vault))
		}
		if got := impl.Data(out.Vault, l.master); !slices.Equal(got, l.pairs()) {
			t.Fatalf("by %d envelopes: there is %q, want %q", many, got, l.pairs())
		}
	}
	for _, e := range given {
		if !impl.Current(v, e) {
			t.Fatalf("%+v is one of now: %s", e, vaultName(v))
		}
	}
	for _, e := range l.old {
		if out := impl.Unlock(v, []impl.Env{e}); impl.Current(v, e) || out.Code != impl.ErrStale || !sameVault(out.Vault, v) {
			t.Fatalf("%+v is an old one: code %d, %s", e, out.Code, vaultName(out.Vault))
		}
	}
}

// comesOf asks that what is in it behind an op is what comes of the pairs by it, where it is done, and else what it was.
func comesOf(t *testing.T, was impl.Vault, o impl.Op, master string) {
	t.Helper()
	ahead, out := impl.Data(was, master), impl.Do(was, o)
	want := ahead
	if out.Code == impl.OK {
		want = impl.Want(ahead, o)
	}
	if !impl.OpRight(o) {
		want = nil
	}
	if got := impl.Data(out.Vault, master); !slices.Equal(got, want) {
		t.Fatalf("of %q came %q by %s, want %q", ahead, got, opName(o), want)
	}
	if !impl.OpRight(o) {
		return
	}
	size := int64(len(out.Vault.Disk.Safe) - len(was.Disk.Safe))
	keeps := []int64{-1, 0, 1, size / 2, size - 1, size, size + 1}
	if size == 0 {
		keeps = []int64{2}
	}
	for _, keep := range keeps {
		torn := impl.Torn(was, o, keep).Vault
		whole := ahead
		if keep >= size {
			whole = want
		}
		if got := impl.Data(torn, master); torn.Open || torn.Master != "" || !slices.Equal(got, whole) {
			t.Fatalf("torn off behind %d of %d bytes: of %q came %q by %s, open is %v", keep, size, ahead, got, opName(o), torn.Open)
		}
	}
}

// Promise 11: through many lives, whatever is asked, given, locked anew, parted anew, and torn.
func TestDataOfManyLives(t *testing.T) {
	told := map[string]int{}
	for seed := range uint64(300) {
		need := int64(1 + seed%4)
		l := newLife(seed+1000, someText(int(seed%16) + 80)[79:], need, need+int64(seed%3))
		l.told = told
		for range 50 {
			o := l.someOp()
			comesOf(t, l.vault, o, l.master)
			l.do(t, o)
			l.unlocks(t)
		}
	}
	wantToldByEach(t, told)
}

// Promise 11: of vaults of each state that there is, by ops of all kinds, done and refused.
func TestDataOfManyOps(t *testing.T) {
	for _, h := range heldOnes() {
		for _, o := range manyOps(h) {
			comesOf(t, h.vault, o, h.master)
		}
	}
}

// Promise 11: each op that writes is torn at each keep; the envelopes of ahead, or of behind, open it then, and tell all that is in it.
func TestUnlockOfTornOnes(t *testing.T) {
	data := begun("master", 2, 3).opened().by(someData()...)
	part := data.by(rekeyOp(3, 4)).parted(1, "")
	for _, a := range []struct {
		held
		op impl.Op
	}{{data, putOp("b", "other")}, {data, putOp("q", "new")}, {data, named(impl.OpDel, "b")}, {data, turnOp("draws")}, {part, partOp(part.vault, part.envs[0], someDraws(12, 3))}} {
		out := impl.Do(a.vault, a.op)
		size := int64(len(out.Vault.Disk.Safe) - len(a.vault.Disk.Safe))
		for keep := int64(-1); keep <= size+1; keep++ {
			torn := impl.Torn(a.vault, a.op, keep).Vault
			envs, want := a.envs, dataPut()
			if keep >= size {
				want = slowWant(want, a.op)
			}
			if keep >= size && len(out.Envs) > 0 {
				envs = out.Envs
			}
			got := impl.Unlock(torn, envs)
			wantPairs(t, "torn", impl.Data(torn, "master"), want)
			wantPairs(t, "torn, and open again", impl.Data(got.Vault, "master"), want)
			if got.Text != "open" || !impl.Current(torn, envs[0]) {
				t.Errorf("%s, keeping %d of %d: code %d, %q", opName(a.op), keep, size, got.Code, got.Text)
			}
		}
	}
}

// Promise 11: what was put by many hands, put anew by another term, parted anew and again, and told behind all that.
func TestDataOfALongLife(t *testing.T) {
	h := begun("\x00long life\xff", 3, 5)
	var want []impl.Pair
	for i := range 4 {
		out := impl.Unlock(h.vault, h.envs[1:])
		if out.Text != "open" {
			t.Fatalf("time %d: %q, code %d", i, out.Text, out.Code)
		}
		h.vault = out.Vault
		for _, o := range []impl.Op{putOp(eightNames()[i*2], fmt.Sprint("text ", i)), turnOp(someDraws(4, i)), putOp("again", fmt.Sprint(i)), putOp(eightNames()[i*2+1], "goes"), named(impl.OpDel, eightNames()[i*2+1])} {
			want = impl.Want(want, o)
			h = h.by(o)
		}
		wantPairs(t, "open", impl.Data(h.vault, h.master), want)
		old := h.envs
		h = h.by(rekeyOp(3, 5)).parted(3, someDraws(22, i)).closed()
		wantPairs(t, "parted anew", impl.Data(h.vault, h.master), want)
		wantUnlock(t, "by the old ones", h.vault, old, impl.VaultOut{Vault: h.vault, Code: impl.ErrStale})
	}
	if len(want) != 5 {
		t.Errorf("there are %q", want)
	}
}
