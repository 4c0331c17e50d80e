package tests

import (
	"fmt"
	"slices"
	"testing"

	"loop.example/g00839/impl"
)

// slowUnlock gives one after the other, each in the time of then.
func slowUnlock(v impl.Vault, l []impl.Env) impl.VaultOut {
	if len(l) > 400 {
		return impl.VaultOut{Code: impl.ErrSize}
	}
	if len(l) > 20 || !slowVaultRight(v) {
		return impl.VaultOut{Code: impl.ErrForm}
	}
	out := impl.VaultOut{Vault: v}
	for _, e := range l {
		o := impl.Op{Kind: impl.OpGive, Nonce: out.Vault.Nonce}
		if slowEnvRight(e) {
			o.Text = slowEnvBytes(e)
		}
		if !out.Vault.Open {
			out = slowDo(out.Vault, o)
		}
	}
	return out
}

func wantUnlock(t *testing.T, what string, v impl.Vault, l []impl.Env, want impl.VaultOut) {
	t.Helper()
	if got := impl.Unlock(v, l); !sameOut(got, want) {
		wantOut(t, fmt.Sprintf("%s: Unlock(%s, %d envelopes)", what, vaultName(v), len(l)), got, want)
	}
}

// openedIn is an open vault, so many times behind.
func openedIn(v impl.Vault, master string, times int64) impl.Vault {
	return behind(v, func(v *impl.Vault) {
		v.Open, v.Master, v.Got, v.Nonce = true, master, nil, min(v.Nonce+times, impl.MaxTime)
	})
}

// Each choice of envelopes, in each order: as many as are needed open it, and more are not given any more; fewer are kept.
func TestUnlockByEachChoice(t *testing.T) {
	for _, h := range []held{begun("m", 1, 1), begun("m", 1, 3), begun("master", 2, 4), begun("\x00\xff", 3, 4), begun(checkIsNought, 4, 4), begun("master", 2, 3).at(impl.MaxTime), begun("master", 2, 3).at(impl.MaxTime - 1)} {
		need := int(h.vault.Book.Conf.Need)
		shares := sharesIn(h.envs)
		for bits := range 1 << len(shares) {
			inAllOrders(chosen(shares, bits), 0, func(l []impl.Share) {
				envs := slowEnvelopes(1, int64(need), int64(len(shares)), l)
				want := impl.VaultOut{Vault: behind(h.vault, func(v *impl.Vault) { v.Got = envs }), Text: "more"}
				if len(l) == 0 {
					want.Text = ""
				}
				if len(l) >= need {
					want = impl.VaultOut{Vault: openedIn(h.vault, h.master, 1), Text: "open"}
				}
				wantUnlock(t, "some", h.vault, envs, want)
			})
		}
	}
}

func TestUnlockOfNone(t *testing.T) {
	for _, v := range rightVaults() {
		wantUnlock(t, "nil", v, nil, impl.VaultOut{Vault: v})
		wantUnlock(t, "none", v, []impl.Env{}, impl.VaultOut{Vault: v})
	}
}

// One that is open is given nothing, whatever there is; with some given already, fewer open it.
func TestUnlockOfOpenOnes(t *testing.T) {
	data := begun("master", 2, 3).opened().by(someData()...)
	for _, h := range []held{begun("m", 1, 1).opened(), data, data.at(impl.MaxTime), data.by(rekeyOp(3, 4)), data.by(rekeyOp(3, 4)).parted(1, ""), data.filled(0)} {
		for _, l := range [][]impl.Env{h.envs, h.envs[:1], {{}}, make([]impl.Env, 20), wrongEnvs()[:20]} {
			wantUnlock(t, "open already", h.vault, l, impl.VaultOut{Vault: h.vault})
		}
	}
	three := begun("\x00\xffkey\x80", 3, 5)
	for many, h := range []held{three, three.given(1), three.given(2)} {
		open := impl.VaultOut{Vault: openedIn(h.vault, h.master, 1), Text: "open"}
		wantUnlock(t, "the others", h.vault, h.envs[many:3], open)
		wantUnlock(t, "the others, and more", h.vault, h.envs[many:], open)
		wantUnlock(t, "all, some of which it has", h.vault, h.envs, open)
		wantUnlock(t, "the others, from the last on", h.vault, []impl.Env{h.envs[4], h.envs[3], h.envs[2]}, open)
		wantUnlock(t, "too few of the others", h.vault, h.envs[many:2], slowUnlock(h.vault, h.envs[many:2]))
		if many > 0 {
			wantUnlock(t, "just what it has", h.vault, h.envs[:many], impl.VaultOut{Vault: h.vault, Code: impl.ErrThere})
		}
	}
}

// What is refused turns nothing, wherever it stands; it is told just as the last one.
func TestUnlockOfRefusedOnes(t *testing.T) {
	h := begun("four", 3, 5)
	e := h.envs
	with := func(turn func(e *impl.Env)) impl.Env {
		w := e[4]
		turn(&w)
		return w
	}
	for _, c := range []struct {
		what string
		code int64
		env  impl.Env
	}{
		{"one twice", impl.ErrThere, e[0]},
		{"another one of that X", impl.ErrThere, with(func(w *impl.Env) { w.X = 1 })},
		{"a zero one", impl.ErrShort, impl.Env{}},
		{"one that is not right", impl.ErrShort, with(func(w *impl.Env) { w.X = 6 })},
		{"one of no Text", impl.ErrShort, with(func(w *impl.Env) { w.Text = "" })},
		{"one of a very long Text", impl.ErrShort, with(func(w *impl.Env) { w.Text = someText(impl.MaxBytes + 1) })},
		{"another Gen", impl.ErrStale, with(func(w *impl.Env) { w.Gen = 2 })},
		{"another Need", impl.ErrForm, with(func(w *impl.Env) { w.Need = 2 })},
		{"another Many", impl.ErrForm, with(func(w *impl.Env) { w.Many = 6 })},
		{"another length", impl.ErrState, with(func(w *impl.Env) { w.Text += "x" })},
	} {
		two := behind(h.vault, func(v *impl.Vault) { v.Got = slices.Clone(e[:2]) })
		open := impl.VaultOut{Vault: openedIn(h.vault, h.master, 1), Text: "open"}
		wantUnlock(t, c.what+", at last", h.vault, []impl.Env{e[0], e[1], c.env}, impl.VaultOut{Vault: two, Code: c.code})
		wantUnlock(t, c.what+", between", h.vault, []impl.Env{e[0], c.env, e[1]}, impl.VaultOut{Vault: two, Text: "more"})
		wantUnlock(t, c.what+", ahead of the one that opens it", h.vault, []impl.Env{e[0], c.env, e[1], c.env, e[3]}, open)
		wantUnlock(t, c.what+", behind the one that opens it", h.vault, []impl.Env{e[0], e[1], e[3], c.env}, open)
	}
	for _, w := range wrongEnvs() {
		wantUnlock(t, "not right", h.vault, []impl.Env{w}, impl.VaultOut{Vault: h.vault, Code: impl.ErrShort})
		wantUnlock(t, "not right, of a new one", impl.Vault{}, []impl.Env{w, w}, impl.VaultOut{Code: impl.ErrState})
	}
	wantUnlock(t, "of a new one", impl.Vault{Nonce: 4}, e, impl.VaultOut{Vault: impl.Vault{Nonce: 4}, Code: impl.ErrState})
}

// Those that make another secret cost a time; the ones behind them may open it all the same, each in the time of then.
func TestUnlockOfAnotherMaster(t *testing.T) {
	for _, h := range []held{begun("master", 2, 3), begun("\x00\xff", 3, 5), begun("master", 2, 3).at(impl.MaxTime), begun("master", 2, 3).at(impl.MaxTime - 1)} {
		need := int(h.vault.Book.Conf.Need)
		turned := slices.Clone(h.envs[:need])
		turned[need-1].Text = turned[need-1].Text[1:] + "x"
		longer := slices.Clone(h.envs[:need])
		for i := range longer {
			longer[i].Text += "\x00"
		}
		for _, wrong := range [][]impl.Env{turned, longer} {
			next := inNewTime(h.vault)
			wantUnlock(t, "another secret", h.vault, wrong, impl.VaultOut{Vault: next, Code: impl.ErrSum})
			wantUnlock(t, "again and again", h.vault, slices.Repeat(wrong, 4), impl.VaultOut{Vault: inNewTime(inNewTime(inNewTime(next))), Code: impl.ErrSum})
			more := append(slices.Repeat(wrong, 2), h.envs[1:]...)
			wantUnlock(t, "too few behind it", h.vault, append(slices.Clone(wrong), h.envs[0]), impl.VaultOut{Vault: behind(next, func(v *impl.Vault) { v.Got = h.envs[:1] }), Text: "more"})
			wantUnlock(t, "enough behind it", h.vault, append(more, h.envs[0]), impl.VaultOut{Vault: openedIn(h.vault, h.master, 3), Text: "open"})
		}
	}
}

// Old envelopes are told as such, be they given alone or among those of now.
func TestUnlockByOldOnes(t *testing.T) {
	old := begun("master", 2, 3).opened().by(putOp("a", "v"))
	now := old.by(rekeyOp(2, 3)).parted(2, someDraws(6, 1)).closed()
	v, open := now.vault, impl.VaultOut{Vault: openedIn(now.vault, "master", 1), Text: "open"}
	wantUnlock(t, "old ones", v, old.envs, impl.VaultOut{Vault: v, Code: impl.ErrStale})
	wantUnlock(t, "one of now, and old ones", v, append(now.envs[:1:1], old.envs...), impl.VaultOut{Vault: behind(v, func(v *impl.Vault) { v.Got = now.envs[:1] }), Code: impl.ErrStale})
	wantUnlock(t, "old ones among those of now", v, []impl.Env{old.envs[0], now.envs[2], old.envs[1], now.envs[0], old.envs[2]}, open)
	wantUnlock(t, "those of now", v, now.envs, open)
	wantUnlock(t, "those of now, ahead of that", old.closed().vault, now.envs, impl.VaultOut{Vault: old.closed().vault, Code: impl.ErrStale})
}

// At most 20 are given; more are ErrForm, and more than any list ErrSize, ahead of what the vault is.
func TestUnlockOfMany(t *testing.T) {
	h := begun(someText(16), 10, 20)
	open := impl.VaultOut{Vault: openedIn(h.vault, h.master, 1), Text: "open"}
	wantUnlock(t, "all 20", h.vault, h.envs, open)
	wantUnlock(t, "the last ones", h.vault, h.envs[10:], open)
	wantUnlock(t, "the last one opens it", h.vault, append(make([]impl.Env, 10), h.envs[10:]...), open)
	wantUnlock(t, "the last one is one too few", h.vault, append(make([]impl.Env, 11), h.envs[11:]...), slowUnlock(h.vault, h.envs[11:]))
	vaults := []impl.Vault{{}, h.vault, h.given(9).vault, h.opened().vault, h.at(-1).vault, {Open: true}}
	for _, v := range vaults {
		for _, many := range []int{21, 22, 256, 277, 399, 400} {
			wantUnlock(t, "too many", v, slices.Repeat(h.envs, 20)[:many], impl.VaultOut{Code: impl.ErrForm})
			wantUnlock(t, "too many zero ones", v, make([]impl.Env, many), impl.VaultOut{Code: impl.ErrForm})
		}
		for _, many := range []int{401, 402, 420, 5000} {
			wantUnlock(t, "very many", v, slices.Repeat(h.envs, 250)[:many], impl.VaultOut{Code: impl.ErrSize})
			wantUnlock(t, "very many zero ones", v, make([]impl.Env, many), impl.VaultOut{Code: impl.ErrSize})
		}
	}
}

func TestUnlockOfNoRightVault(t *testing.T) {
	h := begun("master", 2, 3)
	for _, w := range wrongVaults() {
		for _, l := range [][]impl.Env{nil, h.envs, {{}}, w.vault.Got} {
			if len(l) <= 20 {
				wantUnlock(t, w.what, w.vault, l, impl.VaultOut{Code: impl.ErrForm})
			}
		}
	}
}

// envLists are lists of envelopes of many kinds, most of which are refused somewhere.
func envLists(h held) [][]impl.Env {
	e := slices.Clone(h.envs[:min(len(h.envs), 10)])
	stale, turned := slices.Clone(e), slices.Clone(e)
	for i := range e {
		stale[i].Gen++
		turned[i].Text = turned[i].Text[1:] + "x"
	}
	back := slices.Clone(e)
	slices.Reverse(back)
	return [][]impl.Env{nil, e, back, stale, turned, wrongEnvs()[:20], rightEnvs()[:20], slices.Concat(turned, e), slices.Concat(stale, back), append(make([]impl.Env, 3), e...)}
}

func TestUnlockOfManyVaults(t *testing.T) {
	codes := map[int64]int{}
	for _, h := range heldOnes() {
		for _, l := range envLists(h) {
			want := slowUnlock(h.vault, l)
			codes[want.Code]++
			wantUnlock(t, "of all", h.vault, l, want)
			if got := impl.Unlock(h.vault, l); !impl.VaultRight(got.Vault) {
				t.Errorf("%s is not right any more", vaultName(got.Vault))
			}
		}
	}
	for _, code := range []int64{impl.OK, impl.ErrForm, impl.ErrShort, impl.ErrSum, impl.ErrState, impl.ErrStale} {
		if codes[code] == 0 {
			t.Errorf("code %d is never told", code)
		}
	}
}

func TestUnlockLeavesAndSharesNothing(t *testing.T) {
	for _, h := range heldOnes() {
		for i, was := range envLists(h) {
			what := fmt.Sprintf("list %d", i)
			v, l := roomyVault(h.vault), withRoom(was, fillEnv())
			got := impl.Unlock(v, l)
			given := vaultTexts(impl.VaultOut{Vault: v, Envs: l})
			wantTextsApart(t, what, vaultTexts(got), given)
			wantVaultAsItWas(t, what, v, h.vault)
			wantAsItWas(t, what, l, was, fillEnv())
			want := slowUnlock(h.vault, was)
			overwriteVault(v)
			overwrite(l, fillEnv())
			wantOut(t, what+", when what was handed in changes", got, want)
			v, l = roomyVault(h.vault), withRoom(was, fillEnv())
			got = impl.Unlock(v, l)
			overwriteEach(t, what, got)
			overwriteVault(got.Vault)
			wantVaultAsItWas(t, what+", when what was told changes", v, h.vault)
			wantAsItWas(t, what+", when what was told changes", l, was, fillEnv())
		}
	}
}

// slowCurrent is of a vault that is right.
func slowCurrent(v impl.Vault, e impl.Env) bool {
	c := v.Book.Conf
	return slowEnvRight(e) && [3]int64{e.Gen, e.Need, e.Many} == [3]int64{c.Gen, c.Need, c.Many}
}

func TestCurrent(t *testing.T) {
	current := 0
	for _, h := range heldOnes() {
		envs := slices.Concat(h.envs, rightEnvs(), []impl.Env{{}})
		for _, e := range h.envs {
			for _, turn := range []func(e *impl.Env){
				func(e *impl.Env) { e.Gen-- }, func(e *impl.Env) { e.Gen++ }, func(e *impl.Env) { e.Need-- }, func(e *impl.Env) { e.Need++ },
				func(e *impl.Env) { e.Many-- }, func(e *impl.Env) { e.Many++ }, func(e *impl.Env) { e.X = e.Many + 1 }, func(e *impl.Env) { e.X = 0 },
				func(e *impl.Env) { e.Text = "" }, func(e *impl.Env) { e.Text += someText(16) }, func(e *impl.Env) { e.Text = "any" }} {
				w := e
				turn(&w)
				envs = append(envs, w)
			}
		}
		for _, e := range envs {
			want := slowCurrent(h.vault, e)
			if got := impl.Current(h.vault, e); got != want {
				t.Errorf("Current(%s, %+v): got %v", vaultName(h.vault), e, got)
			}
			if want {
				current++
			}
		}
		for _, e := range h.envs {
			if !impl.Current(h.vault, e) || !impl.Current(h.closed().vault, e) {
				t.Errorf("%+v is one of now: %s", e, vaultName(h.vault))
			}
		}
	}
	if current < 100 {
		t.Errorf("just %d were to be of now", current)
	}
}

func TestCurrentOfWhatIsNotRight(t *testing.T) {
	h := begun("master", 2, 3)
	for _, w := range wrongVaults() {
		for _, e := range []impl.Env{h.envs[0], {}, {Gen: 1, Need: 3, Many: 5, X: 1, Text: "x"}, {Gen: w.vault.Book.Conf.Gen, Need: w.vault.Book.Conf.Need, Many: w.vault.Book.Conf.Many, X: 1, Text: "x"}} {
			if impl.Current(w.vault, e) {
				t.Errorf("%s: %+v is of no right vault", w.what, e)
			}
		}
	}
	for _, v := range []impl.Vault{{}, {Nonce: 5}} {
		for _, e := range slices.Concat(rightEnvs(), wrongEnvs(), []impl.Env{{X: 1, Text: "x"}}) {
			if impl.Current(v, e) {
				t.Errorf("%+v is of a vault that has not begun", e)
			}
		}
	}
	for _, e := range wrongEnvs() {
		v := handMade("m", impl.Conf{Gen: max(1, min(e.Gen, 999)), Need: max(1, min(e.Need, 10)), Many: max(1, min(e.Need, 10), min(e.Many, 20))}).vault
		if !impl.VaultRight(v) || impl.Current(v, e) {
			t.Errorf("%s: %+v is not right", vaultName(v), e)
		}
	}
}

func TestCurrentOfOldOnes(t *testing.T) {
	old := begun("master", 2, 3).opened()
	on := old.by(rekeyOp(2, 3))
	now := on.parted(2, someDraws(6, 1))
	for i := range 3 {
		for _, c := range []struct {
			held
			env  impl.Env
			want bool
		}{{old, old.envs[i], true}, {on, old.envs[i], true}, {now, old.envs[i], false}, {old, now.envs[i], false}, {now, now.envs[i], true}, {now.closed(), now.envs[i], true}, {now.closed(), old.envs[i], false}} {
			if got := impl.Current(c.vault, c.env); got != c.want {
				t.Errorf("Current(%s, %+v): got %v", vaultName(c.vault), c.env, got)
			}
		}
	}
	v := roomyVault(now.vault)
	impl.Current(v, now.envs[0])
	wantVaultAsItWas(t, "Current", v, now.vault)
}
