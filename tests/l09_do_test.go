package tests

import (
	"fmt"
	"slices"
	"strings"
	"testing"

	"loop.example/g00839/impl"
)

// wantOpCode asks for a code, beside which the vault is as it was, and nothing is told.
func wantOpCode(t *testing.T, what string, v impl.Vault, o impl.Op, code int64) {
	t.Helper()
	if got, want := impl.Do(v, o), (impl.VaultOut{Vault: v, Code: code}); !sameOut(got, want) {
		wantOut(t, what+": "+opName(o), got, want)
	}
}

// wantTold asks for what is told, and the code OK, and that the vault behind it is another one.
func wantTold(t *testing.T, what string, v impl.Vault, o impl.Op, told string, behind impl.Vault) {
	t.Helper()
	if got, want := impl.Do(v, o), (impl.VaultOut{Vault: behind, Text: told}); !sameOut(got, want) {
		wantOut(t, what+": "+opName(o), got, want)
	}
}

// behind is a vault in which some things are turned.
func behind(v impl.Vault, turn func(v *impl.Vault)) impl.Vault {
	v = vaultCopy(v)
	turn(&v)
	return v
}

// wrote is a vault that has written deeds, all together.
func wrote(v impl.Vault, l ...impl.Deed) impl.Vault {
	v = vaultCopy(v)
	v.Disk.Safe += slowTx(l...)
	v.Book = slowReplay(impl.TxRead(v.Disk.Safe)...)
	return v
}

// inNewTime is a vault in which nothing was given, and of the next time.
func inNewTime(v impl.Vault) impl.Vault {
	return behind(v, func(v *impl.Vault) {
		v.Got, v.Rekey, v.Nonce = nil, impl.Rekey{}, min(v.Nonce+1, impl.MaxTime)
	})
}

// firstCodes are faults that an op may have, in the order in which they are told. Each is switched on in what is asked.
type firstCodes[T any] struct {
	start  T
	faults []fault[T]
	ask    func(t *testing.T, what string, x T, code int64)
}

type fault[T any] struct {
	what string
	code int64
	turn func(x *T)
}

// each asks with all choices of faults: it is the first one whose code is told.
func (f firstCodes[T]) each(t *testing.T) {
	t.Helper()
	for bits := range 1 << len(f.faults) {
		x, what, code := f.start, "", int64(impl.OK)
		for i := len(f.faults) - 1; i >= 0; i-- {
			if bits>>i&1 == 1 {
				f.faults[i].turn(&x)
				what, code = f.faults[i].what+", "+what, f.faults[i].code
			}
		}
		f.ask(t, what, x, code)
	}
}

// asked is a vault, and an op.
type asked struct {
	vault impl.Vault
	op    impl.Op
}

func askCode(t *testing.T, what string, x asked, code int64) {
	t.Helper()
	if code != impl.OK {
		wantOpCode(t, what, x.vault, x.op, code)
	} else if got := impl.Do(x.vault, x.op); got.Code != impl.OK {
		t.Errorf("%s: %s: got code %d", what, opName(x.op), got.Code)
	}
}

func TestOpInit(t *testing.T) {
	draws := "\x11\x12\x13\x14\x15\x16\x17\x18\x19\x1alock, and more"
	out := impl.Do(impl.Vault{Nonce: 3}, initOp("\x01key\xff", 3, 4, draws))
	safe := slowTx(conf(1, 3, 4, trueCrc("check \x01key\xff")), term(1, "\x07\x0a\x1a\x94"))
	want := impl.Vault{Disk: impl.Disk{Safe: safe}, Nonce: 3, Book: impl.Book{Conf: impl.Conf{Gen: 1, Need: 3, Many: 4, Check: trueCrc("check \x01key\xff")}, Terms: []impl.Term{{No: 1, Locked: "\x07\x0a\x1a\x94"}}}}
	wantOut(t, "known", out, impl.VaultOut{Vault: want, Envs: slowEnvelopes(1, 3, 4, slowSplit("\x01key\xff", 3, 4, draws))})
	for need := int64(1); need <= 10; need++ {
		for _, many := range manyFor(need) {
			for size := 1; size <= 16; size++ {
				master := someText(60 + size)[60:]
				needs := int64(size) * (need - 1)
				just := initOp(master, need, many, someDraws(needs+4, size))
				if got := wantDid(t, "just enough draws", impl.Vault{Nonce: int64(size)}, just); got.Code != impl.OK || len(got.Envs) != int(many) || got.Vault.Open || len(got.Vault.Book.Terms) != 1 {
					t.Errorf("%s: got %+v", opName(just), got)
				}
				more := just
				more.Draws += someText(int(196 - needs))
				wantOut(t, "more draws than are used", impl.Do(impl.Vault{}, more), impl.Do(impl.Vault{}, just))
				just.Draws = just.Draws[:needs+3]
				wantOpCode(t, "one draw fewer", impl.Vault{}, just, impl.ErrDraws)
				just.Draws = just.Draws[:needs]
				wantOpCode(t, "none for the term", impl.Vault{}, just, impl.ErrDraws)
				just.Draws = ""
				wantOpCode(t, "no draws", impl.Vault{}, just, impl.ErrDraws)
			}
		}
	}
}

func TestOpInitCodes(t *testing.T) {
	h := begun("master", 2, 3)
	draws := someDraws(200, 3)
	for _, v := range []impl.Vault{h.vault, h.given(1).vault, h.opened().vault, h.opened().by(rekeyOp(1, 1)).vault, h.closed().vault} {
		for _, o := range []impl.Op{initOp("master", 2, 3, draws), initOp("other", 1, 1, draws), initOp("", 0, 0, ""), initOp("m", 2, 3, ""), initOp("m", 3, 2, draws)} {
			wantOpCode(t, "it has begun", v, o, impl.ErrState)
		}
	}
	for _, v := range []impl.Vault{{}, {Nonce: 9}} {
		for _, given := range []string{draws, "", draws[:3]} {
			wantOpCode(t, "no Text", v, initOp("", 2, 3, given), impl.ErrForm)
			wantOpCode(t, "a long Text", v, initOp(someText(17), 2, 3, given), impl.ErrForm)
			wantOpCode(t, "a very long Text", v, initOp(someText(200), 2, 3, given), impl.ErrForm)
			for _, no := range [][2]int64{{0, 0}, {0, 3}, {11, 11}, {11, 20}, {3, 2}, {10, 9}, {1, 0}, {1, 21}, {10, 21}, {20, 20}, {256 + 2, 256 + 3}, {1000000, 1000000}, {1, 1000000}} {
				wantOpCode(t, "Need and Many", v, initOp("master", no[0], no[1], given), impl.ErrForm)
			}
		}
	}
}

// offered is what is given to a vault: an envelope that fits, turned in some things, or bytes that are of none.
type offered struct {
	vault impl.Vault
	env   impl.Env
	bytes string
	nonce int64
}

func (x offered) op(kind int64, draws string) impl.Op {
	o := impl.Op{Kind: kind, Text: x.bytes, Nonce: x.nonce, Draws: draws}
	if x.bytes == "" {
		o.Text = slowEnvBytes(x.env)
	}
	return o
}

// badBytes are of no envelope, each with its code; the first three are of each code that there is.
func badBytes() []fault[offered] {
	e := impl.Env{Gen: 1, Need: 3, Many: 5, X: 3, Text: "\x00abc"}
	bytes := slowEnvBytes(e)
	e.X = 6
	var out []fault[offered]
	for _, bad := range []struct {
		code int64
		text string
	}{{impl.ErrShort, "x"}, {impl.ErrSum, bytes + "x"}, {impl.ErrSyntax, slowEnvBytes(e)}, {impl.ErrShort, "abc"}, {impl.ErrSum, "abcd"}, {impl.ErrSum, bytes[1:]}, {impl.ErrSum, someText(200)},
		{impl.ErrSyntax, "\x00\x00\x00\x00"}, {impl.ErrSyntax, slowSeal("x")}, {impl.ErrSyntax, slowSeal(bytes)}} {
		out = append(out, fault[offered]{fmt.Sprintf("bytes %q", clip(bad.text)), bad.code, func(x *offered) { x.bytes = bad.text }})
	}
	return out
}

// envFaults are those of an envelope that is given to vaults of Gen 1, Need 3, Many 5, that have got those of X 4 and 2 of four bytes.
func envFaults(bad fault[offered], nonce int64) []fault[offered] {
	return []fault[offered]{
		{"Nonce", impl.ErrNone, func(x *offered) { x.nonce = nonce }}, bad,
		{"Gen", impl.ErrStale, func(x *offered) { x.env.Gen = 2 }},
		{"Need", impl.ErrForm, func(x *offered) { x.env.Need = 2 }}, {"Many", impl.ErrForm, func(x *offered) { x.env.Many = 6 }},
		{"one X twice", impl.ErrThere, func(x *offered) { x.env.X = 2 }},
		{"another length", impl.ErrState, func(x *offered) { x.env.Text += "x" }}}
}

func TestOpGiveFirstCode(t *testing.T) {
	h := begun("four", 3, 5)
	open := h.opened()
	h = h.by(giveOp(h.vault, h.envs[3]), giveOp(h.vault, h.envs[1]))
	ask := func(t *testing.T, what string, x offered, code int64) {
		t.Helper()
		askCode(t, what, asked{x.vault, x.op(impl.OpGive, "")}, code)
	}
	for _, bad := range badBytes() {
		for _, nonce := range []int64{1, 2, impl.MaxTime} {
			faults := envFaults(bad, nonce)
			firstCodes[offered]{offered{vault: h.vault, env: h.envs[2]}, faults, ask}.each(t)
			for _, v := range []impl.Vault{{}, open.vault, open.by(rekeyOp(2, 2)).vault} {
				state := fault[offered]{"it is open, or new", impl.ErrState, func(x *offered) { x.vault = v }}
				firstCodes[offered]{offered{vault: h.vault, env: h.envs[2]}, append([]fault[offered]{state}, faults...), ask}.each(t)
			}
		}
	}
	ahead := begun("four", 3, 5)
	longer := ahead.envs[0]
	longer.Text += "x"
	if got := wantDid(t, "the first may be of any length", ahead.vault, giveOp(ahead.vault, longer)); got.Text != "more" || len(got.Vault.Got) != 1 {
		t.Errorf("got %+v", got)
	}
	wantOpCode(t, "no Text at all", ahead.vault, impl.Op{Kind: impl.OpGive}, impl.ErrShort)
}

func TestOpPartFirstCode(t *testing.T) {
	open := begun("four", 3, 5).opened().by(putOp("fill", "v"))
	on := open.by(rekeyOp(4, 6))
	on = on.by(partOp(on.vault, on.envs[3], ""), partOp(on.vault, on.envs[1], ""))
	wrong := on.envs[2]
	wrong.Text = "\x00" + wrong.Text[1:]
	full := open.filled(5).by(rekeyOp(4, 6))
	full = full.by(partOp(full.vault, full.envs[3], ""), partOp(full.vault, full.envs[1], ""))
	draws := someDraws(12, 8)
	for _, bad := range badBytes()[:3] {
		for _, v := range []impl.Vault{{Nonce: 2}, open.closed().vault, open.vault} {
			for _, fewer := range []string{"", draws[:11]} {
				ask := func(t *testing.T, what string, x offered, code int64) {
					t.Helper()
					given := draws
					if strings.Contains(what, "draws") {
						given = fewer
					}
					askCode(t, what, asked{x.vault, x.op(impl.OpPart, given)}, code)
				}
				state := fault[offered]{"it is sealed", impl.ErrSealed, func(x *offered) { x.vault = v }}
				if v.Open {
					state = fault[offered]{"no rekey is On", impl.ErrState, func(x *offered) { x.vault = v }}
				}
				late := []fault[offered]{{"draws", impl.ErrDraws, func(x *offered) {}}, {"full", impl.ErrFull, func(x *offered) { x.vault = full.vault }}}
				faults := append(append([]fault[offered]{state}, envFaults(bad, 3)...), late...)
				firstCodes[offered]{offered{vault: on.vault, env: on.envs[2], nonce: on.vault.Nonce}, faults, ask}.each(t)
			}
		}
	}
	for _, v := range []impl.Vault{on.vault, full.vault} {
		wantOpCode(t, "draws ahead of the sum", v, partOp(v, wrong, draws[:11]), impl.ErrDraws)
		got := impl.Do(v, partOp(v, wrong, draws))
		wantOut(t, "the sum ahead of full", got, impl.VaultOut{Code: impl.ErrSum, Vault: behind(v, func(v *impl.Vault) { v.Rekey.Got = nil })})
	}
}

func sharesIn(l []impl.Env) []impl.Share {
	var out []impl.Share
	for _, e := range l {
		out = append(out, impl.Share{X: e.X, Text: e.Text})
	}
	return out
}

// Each choice of as many envelopes as are needed, in each order, opens; one that is given too much tells that it is open.
func TestOpGiveOpens(t *testing.T) {
	for _, h := range []held{begun("master", 1, 1), begun("m", 1, 3), begun("master", 2, 4), begun("\x00\xff", 3, 5), begun(checkIsNought, 4, 4), begun("master", 2, 3).at(impl.MaxTime), begun("master", 2, 3).at(impl.MaxTime - 1)} {
		need := int(h.vault.Book.Conf.Need)
		shares := sharesIn(h.envs)
		for bits := range 1 << len(shares) {
			if l := chosen(shares, bits); len(l) == need {
				inAllOrders(l, 0, func(l []impl.Share) { giveAll(t, h, l) })
			}
		}
	}
}

func giveAll(t *testing.T, h held, l []impl.Share) {
	t.Helper()
	v := h.vault
	for i, s := range l {
		e := h.envs[s.X-1]
		want := behind(v, func(v *impl.Vault) { v.Got = append(v.Got, e) })
		told := "more"
		if i+1 == len(l) {
			want, told = behind(inNewTime(v), func(v *impl.Vault) { v.Open, v.Master = true, h.master }), "open"
		}
		wantTold(t, "given one by one", v, giveOp(v, e), told, want)
		v = want
	}
	for _, e := range h.envs {
		wantOpCode(t, "more than are needed", v, giveOp(v, e), impl.ErrState)
	}
}

// They make another secret: the new time stays, and nothing else. The next ones may open it all the same.
func TestOpGiveErrSum(t *testing.T) {
	for _, h := range []held{begun("m", 1, 3), begun("master", 2, 3), begun("master", 3, 5), begun("master", 2, 3).at(impl.MaxTime), begun("master", 2, 3).at(impl.MaxTime - 1)} {
		need := int(h.vault.Book.Conf.Need)
		for at := range need {
			for _, text := range []string{"", "x"} {
				v := h.vault
				for i, e := range h.envs[:need] {
					if text == "" && i == at {
						e.Text = string([]byte{e.Text[0] ^ 1}) + e.Text[1:]
					}
					e.Text += text
					o := giveOp(v, e)
					if i+1 < need {
						v = slowDo(v, o).Vault
						continue
					}
					want := inNewTime(v)
					wantOut(t, "another secret", impl.Do(v, o), impl.VaultOut{Vault: want, Code: impl.ErrSum})
					if again := (held{want, h.master, h.envs}).opened(); !again.vault.Open || impl.Do(want, o).Code == impl.ErrNone != (v.Nonce < impl.MaxTime) {
						t.Errorf("behind another secret: %s", vaultName(want))
					}
				}
			}
		}
	}
}

// sealedKinds are refused by a vault that is not open, whatever else is wrong with them.
func sealedKinds() []int64 {
	return []int64{impl.OpSeal, impl.OpPut, impl.OpGet, impl.OpDel, impl.OpList, impl.OpTurn, impl.OpRekey, impl.OpPart}
}

func TestOpSealed(t *testing.T) {
	h := begun("master", 2, 3)
	data := h.opened().by(someData()...)
	for _, v := range []impl.Vault{{}, {Nonce: 1}, h.vault, h.given(1).vault, data.closed().vault, data.closed().given(1).vault, data.filled(0).closed().vault} {
		for _, kind := range sealedKinds() {
			for _, o := range []impl.Op{{Kind: kind}, {Kind: kind, Name: "b", Text: "v", Need: 2, Many: 3, Draws: someDraws(20, 1)}, {Kind: kind, Name: "no word", Text: someText(21), Need: 99}, giveOp(v, h.envs[2])} {
				o.Kind = kind
				wantOpCode(t, "sealed", v, o, impl.ErrSealed)
			}
		}
	}
}

func TestOpSeal(t *testing.T) {
	data := begun("master", 2, 3).opened().by(someData()...)
	for _, h := range []held{begun("m", 1, 1).opened(), data, data.by(rekeyOp(3, 4)), data.by(rekeyOp(3, 4)).parted(1, ""), data.at(impl.MaxTime), data.at(impl.MaxTime - 1), data.filled(0)} {
		want := behind(inNewTime(h.vault), func(v *impl.Vault) { v.Open, v.Master = false, "" })
		wantTold(t, "it is sealed", h.vault, impl.Op{Kind: impl.OpSeal}, "sealed", want)
		wantOpCode(t, "it is sealed already", want, impl.Op{Kind: impl.OpSeal}, impl.ErrSealed)
	}
}

// lockedBy is a text locked by the key that some draws made.
func lockedBy(draws string, text string) string {
	return slowLock(draws, 0, text)
}

func TestOpPut(t *testing.T) {
	h := handMade("master", impl.Conf{Gen: 1, Need: 2, Many: 3})
	first := slowLock("master", 1, "\x07Key")
	wantTold(t, "the first", h.vault, putOp("b", "hello"), "ok", wrote(h.vault, put("b", 1, lockedBy(first, "hello"))))
	h = h.by(putOp("b", "hello"), turnOp("\x01\x02\xffkmore"))
	for _, text := range someBodies() {
		for _, name := range []string{"a", "b", "c", "abcdefgh", "zzzzzzzz"} {
			wantTold(t, "by the last term", h.vault, putOp(name, text), "ok", wrote(h.vault, put(name, 2, lockedBy("\x01\x02\xffk", text))))
		}
	}
	for _, name := range append(wrongWords(), "") {
		if len(name) <= 20 {
			wantOpCode(t, "no word", h.vault, putOp(name, "v"), impl.ErrForm)
			wantOpCode(t, "no word, and no text", h.vault, putOp(name, ""), impl.ErrForm)
		}
	}
	for _, text := range append(wrongBodies(), someText(200)) {
		if len(text) <= 200 {
			wantOpCode(t, "no text", h.vault, putOp("a", text), impl.ErrForm)
			wantOpCode(t, "no text, there already", h.vault, putOp("b", text), impl.ErrForm)
		}
	}
}

// A ninth name, and a disk that is full: both tell ErrFull, behind what is no word or no text.
func TestOpPutFull(t *testing.T) {
	h := begun("master", 2, 3).opened().by(putOp("fill", "v"), turnOp("draws"))
	for _, name := range []string{"a", "b", "c", "d", "e", "f", "z"} {
		wantTold(t, "one more", h.vault, putOp(name, "v"), "ok", wrote(h.vault, put(name, 2, lockedBy("draw", "v"))))
		h = h.by(putOp(name, "v"))
	}
	for _, name := range []string{"aa", "g", "filla", "zz"} {
		wantOpCode(t, "a ninth", h.vault, putOp(name, "v"), impl.ErrFull)
		wantOpCode(t, "a ninth of no text", h.vault, putOp(name, ""), impl.ErrForm)
		wantOpCode(t, "a ninth of a long text", h.vault, putOp(name, someText(21)), impl.ErrForm)
	}
	wantTold(t, "anew", h.vault, putOp("c", "w"), "ok", wrote(h.vault, put("c", 2, lockedBy("draw", "w"))))
	less := h.by(named(impl.OpDel, "d"))
	wantTold(t, "an eighth", less.vault, putOp("g", "w"), "ok", wrote(less.vault, put("g", 2, lockedBy("draw", "w"))))
	full := h.filled(3)
	wantOpCode(t, "no word, and full", full.vault, putOp("A", "v"), impl.ErrForm)
	wantOpCode(t, "no text, and full", full.vault, putOp("a", ""), impl.ErrForm)
	wantOpCode(t, "full", full.vault, putOp("a", "v"), impl.ErrFull)
}

func TestOpGetDelList(t *testing.T) {
	h := begun("master", 3, 4).opened()
	wantTold(t, "none", h.vault, impl.Op{Kind: impl.OpList}, "", h.vault)
	texts := map[string]string{}
	for i, name := range []string{"m", "b", "zzz", "abcdefgh", "a", "c", "y", "d"} {
		if i%2 == 1 && i < 8 {
			h = h.by(turnOp(someText(i*9 + 4)[i*9:]))
		}
		texts[name] = someBodies()[i]
		h = h.by(putOp(name, texts[name]))
		names := slices.Sorted(mapKeys(texts))
		wantTold(t, "all names", h.vault, impl.Op{Kind: impl.OpList}, strings.Join(names, ","), h.vault)
		for _, name := range names {
			wantTold(t, "what was put", h.vault, named(impl.OpGet, name), texts[name], h.vault)
			wantTold(t, "one goes", h.vault, named(impl.OpDel, name), "ok", wrote(h.vault, del(name)))
		}
		for _, name := range []string{"", "A", "aa", "bb", "zz", "zzzz", "abcdefg", "abcdefghi", "no word", "m ", someText(20)} {
			wantOpCode(t, "none of that name", h.vault, named(impl.OpGet, name), impl.ErrNone)
			wantOpCode(t, "none of that name", h.vault, named(impl.OpDel, name), impl.ErrNone)
		}
	}
	for _, name := range slices.Sorted(mapKeys(texts)) {
		h = h.by(named(impl.OpDel, name))
		wantOpCode(t, "it went", h.vault, named(impl.OpGet, name), impl.ErrNone)
		wantOpCode(t, "it went", h.vault, named(impl.OpDel, name), impl.ErrNone)
	}
	wantTold(t, "all went", h.vault, impl.Op{Kind: impl.OpList}, "", h.vault)
	full := begun("master", 2, 3).opened().by(putOp("fill", "v")).filled(3)
	wantOpCode(t, "none of that name, and full", full.vault, named(impl.OpDel, "a"), impl.ErrNone)
	wantOpCode(t, "full", full.vault, named(impl.OpDel, "fill"), impl.ErrFull)
}

func mapKeys(m map[string]string) func(yield func(string) bool) {
	return func(yield func(string) bool) {
		for k := range m {
			if !yield(k) {
				return
			}
		}
	}
}

func TestOpTurn(t *testing.T) {
	for _, master := range []string{"m", "\xff\x00", "master", someText(16)} {
		h := begun(master, 2, 3).opened().by(putOp("fill", "v"))
		for no := int64(2); no <= 5; no++ {
			for _, draws := range []string{"", "x", "xyz"} {
				wantOpCode(t, "too few draws", h.vault, turnOp(draws), impl.ErrDraws)
				wantOpCode(t, "too few draws, and full", h.filled(0).vault, turnOp(draws), impl.ErrDraws)
			}
			want := wrote(h.vault, term(no, slowLock(master, no, "\x00ab\xff")))
			wantTold(t, "just enough draws", h.vault, turnOp("\x00ab\xff"), "ok", want)
			wantTold(t, "the first four", h.vault, turnOp("\x00ab\xffand more"), "ok", want)
			wantOpCode(t, "full", h.filled(5).vault, turnOp("draws"), impl.ErrFull)
			h.vault = want
		}
		for _, draws := range []string{"", "xyz", "draws"} {
			wantOpCode(t, "as many as there may be", h.vault, turnOp(draws), impl.ErrFull)
		}
		if got := impl.Do(h.vault, named(impl.OpGet, "fill")); got.Text != "v" {
			t.Errorf("what was put by the first term: got %q", got.Text)
		}
	}
}

func TestOpRekey(t *testing.T) {
	data := begun("master", 2, 3).opened().by(someData()...)
	for need := int64(1); need <= 10; need++ {
		for _, many := range manyFor(need) {
			for _, h := range []held{data, data.at(impl.MaxTime), data.at(impl.MaxTime - 1)} {
				want := behind(inNewTime(h.vault), func(v *impl.Vault) { v.Rekey = impl.Rekey{On: true, Need: need, Many: many} })
				wantTold(t, "it is On", h.vault, rekeyOp(need, many), "more", want)
				wantOpCode(t, "it is On already", want, rekeyOp(need, many), impl.ErrThere)
			}
		}
	}
	last := handMade("ends", impl.Conf{Gen: 999, Need: 3, Many: 4})
	ahead := handMade("ends", impl.Conf{Gen: 998, Need: 3, Many: 4})
	started := behind(last.vault, func(v *impl.Vault) { v.Rekey = impl.Rekey{On: true, Need: 1, Many: 1} })
	for _, no := range [][2]int64{{0, 0}, {0, 3}, {11, 11}, {11, 20}, {3, 2}, {10, 9}, {1, 0}, {1, 21}, {10, 21}, {20, 20}, {256 + 2, 256 + 3}, {1000000, 1000000}, {1, 1000000}} {
		wantOpCode(t, "Need and Many", data.vault, rekeyOp(no[0], no[1]), impl.ErrForm)
		wantOpCode(t, "Need and Many of the last Gen", last.vault, rekeyOp(no[0], no[1]), impl.ErrForm)
		wantOpCode(t, "Need and Many, and it is On", data.by(rekeyOp(1, 1)).vault, rekeyOp(no[0], no[1]), impl.ErrThere)
	}
	wantOpCode(t, "the last Gen", last.vault, rekeyOp(2, 3), impl.ErrFull)
	wantOpCode(t, "the last Gen, and it is On", started, rekeyOp(2, 3), impl.ErrThere)
	if h := ahead.by(rekeyOp(2, 3)).parted(3, someDraws(4, 1)); h.vault.Book.Conf.Gen != 999 || impl.Do(ahead.vault, rekeyOp(2, 3)).Code != impl.OK {
		t.Errorf("of Gen 998 came %s", vaultName(h.vault))
	}
	if got := impl.Do(data.filled(0).vault, rekeyOp(2, 3)); got.Text != "more" {
		t.Errorf("nothing is written by it, so a full disk takes it: got %+v", got.Code)
	}
}

// A rekey of the last Gen could not have been begun; if it stands there, there is no Conf that could be written.
func TestOpPartOfTheLastGen(t *testing.T) {
	last := handMade("ends", impl.Conf{Gen: 999, Need: 2, Many: 4})
	last.vault.Rekey = impl.Rekey{On: true, Need: 2, Many: 3, Got: last.envs[1:2]}
	for _, e := range []impl.Env{last.envs[0], last.envs[3]} {
		wantOpCode(t, "the last Gen", last.vault, partOp(last.vault, e, someDraws(4, 1)), impl.ErrFull)
		wantOpCode(t, "the last Gen, too few draws", last.vault, partOp(last.vault, e, "abc"), impl.ErrDraws)
	}
}

func TestOpPartDone(t *testing.T) {
	for _, h := range []held{begun("m", 1, 2), begun("master", 2, 3), begun("\x00\xffkey\x80", 3, 5), begun(someText(16), 10, 20), begun("master", 2, 3).at(impl.MaxTime), begun("master", 2, 3).at(impl.MaxTime - 2)} {
		h = h.opened().by(putOp("a", "v"))
		old := h.vault.Book.Conf
		for _, numbers := range [][2]int64{{1, 1}, {1, 20}, {2, 3}, {3, 3}, {10, 20}, {old.Need, old.Many}} {
			need, many := numbers[0], numbers[1]
			on := h.by(rekeyOp(need, many)).parted(int(old.Need)-1, "")
			v, e := on.vault, on.envs[0]
			needs := int64(len(h.master)) * (need - 1)
			draws := someDraws(needs, 9)
			shares := slowSplit(h.master, need, many, draws)
			want := impl.VaultOut{Text: "done", Envs: slowEnvelopes(old.Gen+1, need, many, shares), Vault: inNewTime(wrote(v, conf(old.Gen+1, need, many, old.Check)))}
			wantOut(t, "just enough draws", impl.Do(v, partOp(v, e, draws)), want)
			if needs < 150 {
				wantOut(t, "more draws", impl.Do(v, partOp(v, e, draws+"more")), want)
			}
			if needs > 0 {
				wantOpCode(t, "one draw fewer", v, partOp(v, e, draws[1:]), impl.ErrDraws)
				wantOpCode(t, "no draws", v, partOp(v, e, ""), impl.ErrDraws)
			}
			anew := held{want.Vault, h.master, want.Envs}
			if again := anew.closed().opened(); again.vault.Master != h.master || slowDo(again.vault, named(impl.OpGet, "a")).Text != "v" {
				t.Errorf("the new parts make %q", again.vault.Master)
			}
			for _, e := range h.envs {
				wantOpCode(t, "an old one", anew.closed().vault, giveOp(anew.closed().vault, e), impl.ErrStale)
			}
		}
	}
}

// Those of OpPart are given one by one, in each order; fewer than are needed do nothing yet, and need no draws.
func TestOpPartOneByOne(t *testing.T) {
	h := begun("master", 3, 4).opened().by(rekeyOp(2, 2))
	shares := sharesIn(h.envs)
	draws := someDraws(6, 4)
	for bits := range 1 << len(shares) {
		if l := chosen(shares, bits); len(l) == 3 {
			inAllOrders(l, 0, func(l []impl.Share) {
				v := h.vault
				for i, s := range l[:2] {
					e := h.envs[s.X-1]
					want := behind(v, func(v *impl.Vault) { v.Rekey.Got = append(v.Rekey.Got, e) })
					wantTold(t, "one by one", v, partOp(v, e, draws[:i]), "more", want)
					v = want
				}
				if got := wantDid(t, "the last one", v, partOp(v, h.envs[l[2].X-1], draws)); got.Text != "done" || len(got.Envs) != 2 || got.Vault.Book.Conf.Gen != 2 {
					t.Errorf("got %q, %+v", got.Text, got.Envs)
				}
			})
		}
	}
}

// They make another secret than Master: they are gone, but the rekey goes on in the same time.
func TestOpPartErrSum(t *testing.T) {
	for _, h := range []held{begun("m", 1, 3), begun("master", 2, 3), begun("master", 3, 5), begun("master", 2, 3).at(impl.MaxTime)} {
		on := h.opened().by(rekeyOp(2, 3))
		need := int(h.vault.Book.Conf.Need)
		for at := range need {
			v := on.vault
			for i, e := range h.envs[:need] {
				if i == at {
					e.Text = e.Text[:len(e.Text)-1] + string([]byte{e.Text[len(e.Text)-1] ^ 128})
				}
				o := partOp(v, e, someDraws(6, 4))
				if i+1 < need {
					v = slowDo(v, o).Vault
					continue
				}
				wantOut(t, "another secret", impl.Do(v, o), impl.VaultOut{Vault: on.vault, Code: impl.ErrSum})
			}
		}
		if again := on.parted(need, someDraws(6, 4)); again.vault.Book.Conf.Gen != 2 {
			t.Errorf("behind another secret: %s", vaultName(again.vault))
		}
	}
	longer := begun("four", 1, 2).opened().by(rekeyOp(1, 1))
	e := longer.envs[0]
	e.Text += "\x00"
	wantOut(t, "one of another length", impl.Do(longer.vault, partOp(longer.vault, e, "")), impl.VaultOut{Vault: longer.vault, Code: impl.ErrSum})
}

// Two masters of one Check: either opens, but only that one which opened it makes new parts.
func TestOpPartOfAnotherMasterOfThatCheck(t *testing.T) {
	master := []byte("\x00\xffkey\x80")
	h := begun(string(master), 1, 2)
	for i, b := range []byte("\x41\x06\x71\xdb\x01") {
		master[i] ^= b
	}
	e := h.envs[0]
	e.Text = string(master)
	if impl.CheckOf(e.Text) != h.vault.Book.Conf.Check {
		t.Fatalf("%q has another Check", e.Text)
	}
	other := behind(inNewTime(h.vault), func(v *impl.Vault) { v.Open, v.Master = true, e.Text })
	wantTold(t, "the other one opens", h.vault, giveOp(h.vault, e), "open", other)
	for _, x := range []struct {
		open     impl.Vault
		its, not impl.Env
	}{{h.opened().vault, h.envs[0], e}, {other, e, h.envs[0]}} {
		on := slowDo(x.open, rekeyOp(1, 1)).Vault
		wantOut(t, "not the master", impl.Do(on, partOp(on, x.not, "")), impl.VaultOut{Vault: on, Code: impl.ErrSum})
		if got := wantDid(t, "the master", on, partOp(on, x.its, "")); got.Text != "done" {
			t.Errorf("got %q, code %d", got.Text, got.Code)
		}
	}
}

func TestOpQuit(t *testing.T) {
	data := begun("master", 2, 3).opened().by(someData()...)
	for _, h := range []held{data, data.at(impl.MaxTime), data.at(impl.MaxTime - 2), data.filled(0)} {
		for _, on := range []held{h.by(rekeyOp(3, 4)), h.by(rekeyOp(1, 1)).parted(1, "")} {
			want := inNewTime(on.vault)
			if !want.Open || want.Rekey.On {
				t.Errorf("behind OpQuit it would be %s", vaultName(want))
			}
			wantTold(t, "it is not On any more", on.vault, impl.Op{Kind: impl.OpQuit}, "ok", want)
			wantOpCode(t, "it is not On", want, impl.Op{Kind: impl.OpQuit}, impl.ErrState)
		}
	}
	for _, v := range []impl.Vault{{}, data.vault, data.closed().vault, data.closed().given(1).vault} {
		wantOpCode(t, "it is not On", v, impl.Op{Kind: impl.OpQuit}, impl.ErrState)
	}
}

func TestOpReboot(t *testing.T) {
	for _, v := range rightVaults() {
		want := impl.Vault{Disk: v.Disk, Book: v.Book, Nonce: min(v.Nonce+1, impl.MaxTime)}
		wantTold(t, "as a new one", v, impl.Op{Kind: impl.OpReboot}, "sealed", want)
	}
}

// What an op writes fits in just so: with one byte fewer left it is full, and nothing has changed.
func TestNearlyFull(t *testing.T) {
	data := begun("master", 2, 3).opened().by(someData()...)
	part := data.by(rekeyOp(2, 3)).parted(1, "")
	ops := []asked{{data.vault, putOp("fill", "v")}, {data.vault, putOp("q", someText(20))}, {data.vault, putOp("abcdefgh", someText(20))}, {data.vault, named(impl.OpDel, "aa")}, {data.vault, turnOp("draws")}, {part.vault, partOp(part.vault, part.envs[0], someDraws(6, 1))}}
	for _, a := range ops {
		size := len(slowDo(a.vault, a.op).Vault.Disk.Safe) - len(a.vault.Disk.Safe)
		if size < 10 {
			t.Fatalf("%s writes just %d bytes", opName(a.op), size)
		}
		for left := size - 2; left <= size+2; left++ {
			h := data.filled(left)
			if a.op.Kind == impl.OpPart {
				h = h.by(rekeyOp(2, 3)).parted(1, "")
				a.op.Nonce = h.vault.Nonce
			}
			if left < size {
				wantOpCode(t, fmt.Sprintf("%d bytes left of %d", left, size), h.vault, a.op, impl.ErrFull)
				continue
			}
			got := wantDid(t, fmt.Sprintf("%d bytes left of %d", left, size), h.vault, a.op)
			if got.Code != impl.OK || len(got.Vault.Disk.Safe) != 3000-left+size {
				t.Errorf("%s, %d bytes left of %d: got code %d", opName(a.op), left, size, got.Code)
			}
		}
	}
}

// manyOps are ops of all kinds, most of which are refused somewhere, to a vault of a time.
func manyOps(h held) []impl.Op {
	out := append(oneOfEach(), someData()...)
	for _, e := range append(slices.Clone(h.envs[:min(len(h.envs), 4)]), impl.Env{Gen: 1, Need: 2, Many: 3, X: 2, Text: "master"}) {
		for _, draws := range []string{"", "ab", someDraws(17, 2), someDraws(144, 3)} {
			out = append(out, giveOp(h.vault, e), partOp(h.vault, e, draws))
		}
		stale, again := e, giveOp(h.vault, e)
		stale.Gen++
		again.Nonce = max(again.Nonce-1, 0)
		out = append(out, giveOp(h.vault, stale), partOp(h.vault, stale, ""), again)
	}
	for _, name := range []string{"", "a", "aa", "b", "fill", "zz", "abcdefgh", "no word"} {
		out = append(out, putOp(name, "v"), putOp(name, ""), putOp(name, someText(20)), putOp(name, someText(21)), named(impl.OpGet, name), named(impl.OpDel, name))
	}
	for _, n := range [][2]int64{{1, 1}, {2, 3}, {3, 2}, {10, 20}, {0, 0}} {
		out = append(out, rekeyOp(n[0], n[1]), initOp("other", n[0], n[1], someDraws(60, 1)), initOp("other", n[0], n[1], ""), initOp("", n[0], n[1], someDraws(60, 1)))
	}
	return append(out, turnOp(""), turnOp("abc"), turnOp("abcd"), impl.Op{}, impl.Op{Kind: 13})
}

// Promise 10: a right vault stays right, whatever is done to it, and is what the second reading tells.
func TestManyOpsOfManyVaults(t *testing.T) {
	codes := map[string]int{}
	for _, h := range heldOnes() {
		for _, o := range manyOps(h) {
			got := wantDid(t, "of all", h.vault, o)
			codes[fmt.Sprintf("%d:%d", o.Kind, got.Code)]++
		}
	}
	for kind, list := range [][]int64{impl.OpInit: {impl.OK, impl.ErrState, impl.ErrForm, impl.ErrDraws}, impl.OpGive: {impl.OK, impl.ErrState, impl.ErrNone, impl.ErrStale, impl.ErrForm, impl.ErrThere},
		impl.OpSeal: {impl.OK, impl.ErrSealed}, impl.OpPut: {impl.OK, impl.ErrSealed, impl.ErrForm, impl.ErrFull}, impl.OpGet: {impl.OK, impl.ErrSealed, impl.ErrNone}, impl.OpDel: {impl.OK, impl.ErrSealed, impl.ErrNone, impl.ErrFull},
		impl.OpList: {impl.OK, impl.ErrSealed}, impl.OpTurn: {impl.OK, impl.ErrSealed, impl.ErrFull, impl.ErrDraws}, impl.OpRekey: {impl.OK, impl.ErrSealed, impl.ErrThere, impl.ErrForm, impl.ErrFull},
		impl.OpPart: {impl.OK, impl.ErrSealed, impl.ErrState, impl.ErrStale, impl.ErrThere, impl.ErrDraws, impl.ErrForm, impl.ErrFull}, impl.OpQuit: {impl.OK, impl.ErrState}, impl.OpReboot: {impl.OK}} {
		for _, code := range list {
			if codes[fmt.Sprintf("%d:%d", kind, code)] == 0 {
				t.Errorf("kind %d never tells code %d", kind, code)
			}
		}
	}
}
