package tests

import (
	"fmt"
	"maps"
	"math/rand/v2"
	"slices"
	"strings"
	"testing"

	"loop.example/g00839/impl"
)

// life is a vault through all that is done to it, beside what was put into it, and not deleted since.
type life struct {
	held
	data map[string]string
	old  []impl.Env
	rand *rand.Rand
	told map[string]int
}

func newLife(seed uint64, master string, need int64, many int64) *life {
	l := &life{data: map[string]string{}, rand: rand.New(rand.NewPCG(seed, 7)), told: map[string]int{}}
	out := impl.Do(impl.VaultNew(), initOp(master, need, many, l.draws()))
	l.held = held{out.Vault, master, out.Envs}
	return l
}

func (l *life) draws() string {
	out := make([]byte, 200)
	for i := range out {
		out[i] = byte(l.rand.IntN(256))
	}
	return string(out)
}

func (l *life) name() string {
	return []string{"a", "b", "c", "d", "e", "f", "g", "h", "aa", "zz"}[l.rand.IntN(10)]
}

func (l *life) text() string {
	return l.draws()[:1+l.rand.IntN(20)]
}

// someOp is any op, or one that is not right; envelopes may be old ones, turned, or of another time.
func (l *life) someOp() impl.Op {
	e := l.envs[l.rand.IntN(len(l.envs))]
	if l.rand.IntN(12) == 0 && len(l.old) > 0 {
		e = l.old[l.rand.IntN(len(l.old))]
	}
	give, part := giveOp(l.vault, e), partOp(l.vault, e, l.draws())
	if l.rand.IntN(15) == 0 {
		e.Text = l.draws()[:len(e.Text)]
		give, part = giveOp(l.vault, e), partOp(l.vault, e, l.draws())
	}
	if l.rand.IntN(15) == 0 {
		give.Nonce--
		part.Nonce++
	}
	need := 1 + l.rand.Int64N(4)
	if !l.vault.Open && l.rand.IntN(3) > 0 {
		return give
	}
	switch pick := l.rand.IntN(44); {
	case pick < 12:
		return putOp(l.name(), l.text())
	case pick < 18:
		return named(impl.OpDel, l.name())
	case pick < 20:
		return turnOp(l.draws())
	case pick < 24:
		return rekeyOp(need, need+l.rand.Int64N(4))
	case pick < 32:
		return part
	case pick < 36:
		return named(impl.OpGet, l.name())
	case pick < 37 && l.vault.Rekey.On:
		return impl.Op{Kind: impl.OpQuit}
	}
	return []impl.Op{{Kind: impl.OpSeal}, {Kind: impl.OpList}, {Kind: impl.OpQuit}, {Kind: impl.OpReboot}, initOp("other", 1, 1, l.draws()), {}, putOp("no word", "v"), give}[l.rand.IntN(8)]
}

// wanted is what is in it behind an op that told OK.
func (l *life) wanted(o impl.Op) map[string]string {
	data := maps.Clone(l.data)
	if o.Kind == impl.OpPut {
		data[o.Name] = o.Text
	}
	if o.Kind == impl.OpDel {
		delete(data, o.Name)
	}
	return data
}

// do does an op, or is torn in its midst, and goes on from there.
func (l *life) do(t *testing.T, o impl.Op) {
	t.Helper()
	was, out := l.vault, impl.Do(l.vault, o)
	if !slowOpRight(o) {
		return
	}
	torn := l.rand.IntN(4) == 0
	size := len(out.Vault.Disk.Safe) - len(was.Disk.Safe)
	l.vault = out.Vault
	if torn {
		keep := l.rand.IntN(size+5) - 2
		l.vault = impl.Torn(was, o, int64(keep)).Vault
		if l.vault.Open || l.vault.Disk != was.Disk && l.vault.Disk != out.Vault.Disk {
			t.Fatalf("torn off behind %d of %d bytes: %s came of %s", keep, size, vaultName(l.vault), vaultName(was))
		}
	}
	if out.Code == impl.OK && l.vault.Disk == out.Vault.Disk {
		l.data = l.wanted(o)
		if len(out.Envs) > 0 {
			l.old, l.envs = l.envs, out.Envs
		}
	}
	if out.Code == impl.OK {
		l.told[fmt.Sprint(o.Kind, torn)]++
	}
}

// opens gives so many of the envelopes of now as are needed, whichever, in whatever order, and asks for all that is in it.
func (l *life) opens(t *testing.T) {
	t.Helper()
	v := impl.Do(l.vault, impl.Op{Kind: impl.OpReboot}).Vault
	order := l.rand.Perm(len(l.envs))[:v.Book.Conf.Need]
	for i, x := range order {
		out := impl.Do(v, giveOp(v, l.envs[x]))
		if last := i+1 == len(order); out.Code != impl.OK || out.Vault.Open != last {
			t.Fatalf("envelope %d of %d: code %d, %q", i+1, len(order), out.Code, out.Text)
		}
		v = out.Vault
	}
	names := slices.Sorted(maps.Keys(l.data))
	if got := impl.Do(v, impl.Op{Kind: impl.OpList}).Text; got != strings.Join(names, ",") || v.Master != l.master {
		t.Fatalf("there is %q, want %q", got, names)
	}
	for _, name := range names {
		if got := impl.Do(v, named(impl.OpGet, name)); got.Text != l.data[name] || got.Code != impl.OK {
			t.Fatalf("in %s: got %q, want %q", name, got.Text, l.data[name])
		}
	}
}

// wantToldByEach asks that in some lives each kind of op was done often enough, torn and not torn.
func wantToldByEach(t *testing.T, told map[string]int) {
	t.Helper()
	for kind := impl.OpGive; kind <= impl.OpReboot; kind++ {
		for _, torn := range []bool{false, true} {
			if done := told[fmt.Sprint(kind, torn)]; done < 5 {
				t.Errorf("kind %d, torn %v: done just %d times", kind, torn, done)
			}
		}
	}
}

// Promise 11: whatever is asked, given, locked anew, parted anew, crashed in the midst and torn anywhere: what is in it is what
// was put, and not deleted since, and so many parts of now as are needed open it.
func TestWhatIsInIt(t *testing.T) {
	told := map[string]int{}
	for seed := range uint64(160) {
		need := int64(1 + seed%4)
		l := newLife(seed, someText(int(seed%16) + 80)[79:], need, need+int64(seed%3))
		l.told = told
		for range 60 {
			l.do(t, l.someOp())
			if !impl.VaultRight(l.vault) {
				t.Fatalf("seed %d: %s is not right", seed, vaultName(l.vault))
			}
			l.opens(t)
		}
	}
	wantToldByEach(t, told)
}

// Promise 11: of each op, torn at each keep, what is in it is what it was ahead of the op, or behind it; the parts that open it are
// those of ahead, or those of behind.
func TestTornIsAheadOrBehind(t *testing.T) {
	h := begun("master", 2, 3)
	data := h.opened().by(someData()...)
	part := data.by(rekeyOp(3, 4)).parted(1, "")
	for _, a := range []struct {
		held
		op impl.Op
	}{{data, putOp("b", "other")}, {data, putOp("q", "new")}, {data, named(impl.OpDel, "b")}, {data, turnOp("draws")}, {part, partOp(part.vault, part.envs[0], someDraws(12, 3))},
		{data, named(impl.OpGet, "b")}, {data, impl.Op{Kind: impl.OpSeal}}, {h.given(1), giveOp(h.vault, h.envs[1])}, {data, rekeyOp(1, 2)}, {part, impl.Op{Kind: impl.OpQuit}}} {
		out := impl.Do(a.vault, a.op)
		ahead, anew := a.closed().opened().vault, a.held
		if anew.vault = out.Vault; len(out.Envs) > 0 {
			anew.envs = out.Envs
		}
		for _, keep := range tornKeeps(len(out.Vault.Disk.Safe) - len(a.vault.Disk.Safe)) {
			torn := impl.Torn(a.vault, a.op, keep).Vault
			if torn.Open || torn.Master != "" || len(torn.Got) > 0 {
				t.Errorf("%s: torn, it is not sealed: %s", opName(a.op), vaultName(torn))
			}
			if inAhead, inBehind := contentsOf(torn, a.envs, ahead.Book.Items), contentsOf(torn, anew.envs, out.Vault.Book.Items); inAhead != contentsOf(a.closed().vault, a.envs, ahead.Book.Items) &&
				inBehind != contentsOf(anew.closed().vault, anew.envs, out.Vault.Book.Items) {
				t.Errorf("%s, keeping %d: there is %q by the old parts, %q by the new ones", opName(a.op), keep, inAhead, inBehind)
			}
		}
	}
}

// contentsOf tells all that is in a vault, opened by envelopes, or that it does not open.
func contentsOf(v impl.Vault, envs []impl.Env, items []impl.Item) string {
	for _, e := range envs {
		if !v.Open {
			v = impl.Do(v, giveOp(v, e)).Vault
		}
	}
	if !v.Open {
		return "sealed"
	}
	out := impl.Do(v, impl.Op{Kind: impl.OpList}).Text
	for _, i := range items {
		out += fmt.Sprintf(" %q", impl.Do(v, named(impl.OpGet, i.Name)).Text)
	}
	return out
}

// Promise 10: what is done in two parts is done as a whole, wherever it is parted.
func TestInTwoParts(t *testing.T) {
	for seed := range uint64(12) {
		l := newLife(seed, "master", 2, 3)
		first := l.vault
		var all []impl.Op
		for range 40 {
			o := l.someOp()
			all = append(all, o)
			if out := impl.Do(l.vault, o); slowOpRight(o) {
				if l.vault = out.Vault; len(out.Envs) > 0 {
					l.envs = out.Envs
				}
			}
		}
		whole := impl.DoAll(first, all)
		wantOut(t, "as a whole", whole, slowDoAll(first, all))
		for at := range all {
			ahead := impl.DoAll(first, all[:at])
			wantOut(t, fmt.Sprintf("in two parts, the first of %d", at), impl.DoAll(ahead.Vault, all[at:]), whole)
		}
		if end := impl.DoAll(whole.Vault, nil).Vault; !sameVault(end, whole.Vault) || !sameVault(end, l.vault) {
			t.Errorf("one by one it is %s, as a whole %s", vaultName(l.vault), vaultName(whole.Vault))
		}
	}
}

// Promise 10: sealed it tells nothing, and writes nothing, and there is no master in it.
func TestSealedTellsNothing(t *testing.T) {
	for _, h := range []held{begun("master", 2, 3), begun("\x00\xffkey\x80", 3, 5), begun(someText(16), 10, 20)} {
		open := h.opened().by(someData()...)
		for _, s := range []held{open.by(impl.Op{Kind: impl.OpSeal}), open.closed(), open.by(rekeyOp(3, 4), impl.Op{Kind: impl.OpSeal}), open.closed().given(1)} {
			for _, o := range append(manyOps(s), named(impl.OpGet, "b")) {
				out := impl.Do(s.vault, o)
				if len(out.Envs) > 0 || !slices.Contains([]string{"", "more", "open", "sealed"}, out.Text) || out.Text == "open" && !out.Vault.Open {
					t.Errorf("%s: sealed it tells %q, %+v", opName(o), out.Text, out.Envs)
				}
				if out.Vault.Disk != s.vault.Disk && out.Code != impl.ErrForm {
					t.Errorf("%s: sealed it writes", opName(o))
				}
			}
			for _, text := range vaultTexts(impl.VaultOut{Vault: s.vault}) {
				if strings.Contains(text, h.master) || strings.Contains(text, "text of b") {
					t.Errorf("sealed it has %q", text)
				}
			}
		}
	}
}

// vaultTexts are all texts in an answer.
func vaultTexts(o impl.VaultOut) []string {
	v := o.Vault
	out := append(textsOf(v.Book), v.Disk.Safe, v.Disk.Tail, v.Master, o.Text)
	for _, e := range slices.Concat(v.Got, v.Rekey.Got, o.Envs) {
		out = append(out, e.Text)
	}
	return out
}

// roomyVault is a vault whose lists have room behind them, so that it is seen if something is written there.
func roomyVault(v impl.Vault) impl.Vault {
	v.Got, v.Rekey.Got = withRoom(v.Got, fillEnv()), withRoom(v.Rekey.Got, fillEnv())
	v.Book.Terms, v.Book.Items = withRoom(v.Book.Terms, impl.Term{No: 77}), withRoom(v.Book.Items, impl.Item{Name: "room"})
	return v
}

func fillEnv() impl.Env {
	return impl.Env{Gen: 77, Text: "room"}
}

func wantVaultAsItWas(t *testing.T, what string, v impl.Vault, was impl.Vault) {
	t.Helper()
	wantAsItWas(t, what+", Got", v.Got, was.Got, fillEnv())
	wantAsItWas(t, what+", Rekey's Got", v.Rekey.Got, was.Rekey.Got, fillEnv())
	wantAsItWas(t, what+", Terms", v.Book.Terms, was.Book.Terms, impl.Term{No: 77})
	wantAsItWas(t, what+", Items", v.Book.Items, was.Book.Items, impl.Item{Name: "room"})
}

func overwriteVault(v impl.Vault) {
	overwrite(v.Got, impl.Env{Gen: 88})
	overwrite(v.Rekey.Got, impl.Env{Gen: 88})
	overwrite(v.Book.Terms, impl.Term{No: 88})
	overwrite(v.Book.Items, impl.Item{Name: "over"})
}

// overwriteEach overwrites one list after the other of an answer: the others are as they were.
func overwriteEach(t *testing.T, what string, o impl.VaultOut) {
	t.Helper()
	was := o
	was.Vault, was.Envs = vaultCopy(o.Vault), slices.Clone(o.Envs)
	for i, over := range []func(){
		func() { overwrite(o.Vault.Got, impl.Env{Gen: 88}); was.Vault.Got = o.Vault.Got },
		func() { overwrite(o.Vault.Rekey.Got, impl.Env{Gen: 88}); was.Vault.Rekey.Got = o.Vault.Rekey.Got },
		func() { overwrite(o.Envs, impl.Env{Gen: 88}); was.Envs = o.Envs },
		func() { overwrite(o.Vault.Book.Terms, impl.Term{No: 88}); was.Vault.Book.Terms = o.Vault.Book.Terms },
		func() {
			overwrite(o.Vault.Book.Items, impl.Item{Name: "over"})
			was.Vault.Book.Items = o.Vault.Book.Items
		}} {
		if over(); !sameOut(o, was) {
			t.Errorf("%s: list %d shares memory with another one", what, i)
		}
	}
}

// memoryCalls are the calls of chapter 10 that answer a vault.
func memoryCalls() map[string]func(v impl.Vault, o impl.Op) impl.VaultOut {
	return map[string]func(v impl.Vault, o impl.Op) impl.VaultOut{"Do": impl.Do,
		"DoAll of none": func(v impl.Vault, o impl.Op) impl.VaultOut { return impl.DoAll(v, nil) },
		"DoAll of two":  func(v impl.Vault, o impl.Op) impl.VaultOut { return impl.DoAll(v, []impl.Op{{}, o}) },
		"Torn ahead":    func(v impl.Vault, o impl.Op) impl.VaultOut { return impl.Torn(v, o, 3) },
		"Torn behind":   func(v impl.Vault, o impl.Op) impl.VaultOut { return impl.Torn(v, o, 300) }}
}

func TestVaultLeavesAndSharesNothing(t *testing.T) {
	for _, h := range heldOnes() {
		for _, o := range manyOps(h)[:40] {
			for what, call := range memoryCalls() {
				what = what + ": " + opName(o)
				v := roomyVault(h.vault)
				out := call(v, o)
				for _, told := range vaultTexts(out) {
					for _, given := range append(vaultTexts(impl.VaultOut{Vault: v}), o.Name, o.Text, o.Draws) {
						if shareMemory(told, given) {
							t.Errorf("%s: %q shares memory with what was handed in", what, clip(told))
						}
					}
				}
				wantVaultAsItWas(t, what, v, h.vault)
				want := call(h.vault, o)
				overwriteVault(v)
				if !sameOut(out, want) {
					t.Errorf("%s: it changes with what was handed in", what)
				}
				v = roomyVault(h.vault)
				out = call(v, o)
				overwriteEach(t, what, out)
				overwriteVault(out.Vault)
				wantVaultAsItWas(t, what+", when what was told changes", v, h.vault)
			}
		}
	}
}

func TestListsOfOpsStayAsTheyWere(t *testing.T) {
	data := begun("master", 2, 3).opened().by(someData()...)
	fill := impl.Op{Kind: 77}
	for _, was := range [][]impl.Op{nil, {{}}, oneOfEach(), manyOps(data)} {
		l := withRoom(was, fill)
		out := impl.DoAll(data.vault, l)
		wantAsItWas(t, "ops", l, was, fill)
		overwrite(l, fill)
		wantOut(t, "when what was handed in changes", out, impl.DoAll(data.vault, was))
	}
}
