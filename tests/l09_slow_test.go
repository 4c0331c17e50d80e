package tests

import (
	"fmt"
	"slices"
	"strings"
	"testing"

	"loop.example/g00839/impl"
)

// slowVaultRight asks one after the other what the document's sentence names.
func slowVaultRight(v impl.Vault) bool {
	lists := impl.TxRead(v.Disk.Safe)
	bytes, book := "", impl.Book{}
	for _, l := range lists {
		bytes += slowTx(l...)
		for _, d := range l {
			out := slowBookDo(book, d)
			if out.Code != impl.OK {
				return false
			}
			book = out.Book
		}
	}
	rekey := v.Rekey.On || v.Rekey.Need != 0 || v.Rekey.Many != 0 || len(v.Rekey.Got) > 0
	switch began := len(book.Terms) > 0; {
	case len(v.Disk.Safe) > 3000 || v.Disk.Tail != "" || bytes != v.Disk.Safe || !sameBook(book, v.Book):
		return false
	case !among(v.Nonce, 0, 1000000):
		return false
	case !v.Open && v.Master != "":
		return false
	case v.Open && (!began || !among(int64(len(v.Master)), 1, 16) || trueCrc("check "+v.Master) != book.Conf.Check):
		return false
	case len(v.Got) > 0 && (v.Open || !began) || !slowFit(book.Conf, v.Got):
		return false
	}
	return !rekey || v.Rekey.On && v.Open && slowCanBe(v.Rekey.Need, v.Rekey.Many) && slowFit(book.Conf, v.Rekey.Got)
}

func slowCanBe(need int64, many int64) bool {
	return among(need, 1, 10) && among(many, need, 20)
}

func slowFit(c impl.Conf, l []impl.Env) bool {
	for i, e := range l {
		if !slowEnvRight(e) || e.Gen != c.Gen || e.Need != c.Need || e.Many != c.Many || len(e.Text) != len(l[0].Text) {
			return false
		}
		for _, ahead := range l[:i] {
			if ahead.X == e.X {
				return false
			}
		}
	}
	return len(l) == 0 || int64(len(l)) < c.Need
}

func slowOpRight(o impl.Op) bool {
	return among(o.Kind, 1, 12) && len(o.Name) < 21 && len(o.Text) < 201 && len(o.Draws) < 201 &&
		among(o.Nonce, 0, 1000000) && among(o.Need, 0, 1000000) && among(o.Many, 0, 1000000)
}

func vaultCopy(v impl.Vault) impl.Vault {
	v.Book = copyOf(v.Book)
	v.Got, v.Rekey.Got = slices.Clone(v.Got), slices.Clone(v.Rekey.Got)
	return v
}

// slowAnew is a vault in a new time.
func slowAnew(v impl.Vault) impl.Vault {
	v.Got, v.Rekey = nil, impl.Rekey{}
	if v.Nonce < 1000000 {
		v.Nonce++
	}
	return v
}

func slowKey(master string, t impl.Term) string {
	return slowLock(master, t.No, t.Locked)
}

// slowWrite tells the vault behind deeds that are written, or false, if it is full.
func slowWrite(v impl.Vault, l ...impl.Deed) (impl.Vault, bool) {
	book := v.Book
	for _, d := range l {
		out := slowBookDo(book, d)
		if out.Code != impl.OK {
			return v, false
		}
		book = out.Book
	}
	safe := v.Disk.Safe + slowTx(l...)
	if len(safe) > 3000 {
		return v, false
	}
	v.Disk.Safe, v.Book = safe, book
	return v, true
}

// slowSum is the secret that envelopes make: each byte is the sum of their bytes, each times what is 1 at its X and 0 at those of the others, at 0.
func slowSum(l []impl.Env) string {
	out := make([]byte, len(l[0].Text))
	for i := range out {
		for _, e := range l {
			part := int64(e.Text[i])
			for _, f := range l {
				if f.X != e.X {
					part = slowMul(part, slowMul(f.X, slowPow(f.X^e.X, 254)))
				}
			}
			out[i] ^= byte(part)
		}
	}
	return string(out)
}

// slowTake tells the envelope that is given, or the code.
func slowTake(v impl.Vault, o impl.Op, got []impl.Env) (impl.Env, int64) {
	read := impl.EnvRead(o.Text)
	e, c := read.Env, v.Book.Conf
	switch {
	case o.Nonce != v.Nonce:
		return e, impl.ErrNone
	case read.Code != impl.OK:
		return e, read.Code
	case e.Gen != c.Gen:
		return e, impl.ErrStale
	case e.Need != c.Need || e.Many != c.Many:
		return e, impl.ErrForm
	case slices.ContainsFunc(got, func(x impl.Env) bool { return x.X == e.X }):
		return e, impl.ErrThere
	case len(got) > 0 && len(got[0].Text) != len(e.Text):
		return e, impl.ErrState
	}
	return e, impl.OK
}

func slowInit(v impl.Vault, o impl.Op) impl.VaultOut {
	size := len(o.Text)
	needs := size * int(o.Need-1)
	switch {
	case len(v.Book.Terms) > 0:
		return impl.VaultOut{Vault: v, Code: impl.ErrState}
	case size < 1 || size > 16 || !slowCanBe(o.Need, o.Many):
		return impl.VaultOut{Vault: v, Code: impl.ErrForm}
	case len(o.Draws) < needs+4:
		return impl.VaultOut{Vault: v, Code: impl.ErrDraws}
	}
	first := term(1, slowLock(o.Text, 1, o.Draws[needs:needs+4]))
	w, _ := slowWrite(v, conf(1, o.Need, o.Many, trueCrc("check "+o.Text)), first)
	return impl.VaultOut{Vault: w, Envs: slowEnvelopes(1, o.Need, o.Many, slowSplit(o.Text, o.Need, o.Many, o.Draws))}
}

func slowGive(v impl.Vault, o impl.Op) impl.VaultOut {
	if len(v.Book.Terms) == 0 || v.Open {
		return impl.VaultOut{Vault: v, Code: impl.ErrState}
	}
	e, code := slowTake(v, o, v.Got)
	if code != impl.OK {
		return impl.VaultOut{Vault: v, Code: code}
	}
	got := append(slices.Clone(v.Got), e)
	if int64(len(got)) < v.Book.Conf.Need {
		v.Got = got
		return impl.VaultOut{Vault: v, Text: "more"}
	}
	w := slowAnew(v)
	if master := slowSum(got); trueCrc("check "+master) == v.Book.Conf.Check {
		w.Open, w.Master = true, master
		return impl.VaultOut{Vault: w, Text: "open"}
	}
	return impl.VaultOut{Vault: w, Code: impl.ErrSum}
}

func slowPartOp(v impl.Vault, o impl.Op) impl.VaultOut {
	if !v.Rekey.On {
		return impl.VaultOut{Vault: v, Code: impl.ErrState}
	}
	e, code := slowTake(v, o, v.Rekey.Got)
	if code != impl.OK {
		return impl.VaultOut{Vault: v, Code: code}
	}
	got, c, r := append(slices.Clone(v.Rekey.Got), e), v.Book.Conf, v.Rekey
	if int64(len(got)) < c.Need {
		v.Rekey.Got = got
		return impl.VaultOut{Vault: v, Text: "more"}
	}
	if len(o.Draws) < len(v.Master)*int(r.Need-1) {
		return impl.VaultOut{Vault: v, Code: impl.ErrDraws}
	}
	if slowSum(got) != v.Master {
		v.Rekey.Got = nil
		return impl.VaultOut{Vault: v, Code: impl.ErrSum}
	}
	w, fits := slowWrite(v, conf(c.Gen+1, r.Need, r.Many, c.Check))
	if !fits {
		return impl.VaultOut{Vault: v, Code: impl.ErrFull}
	}
	return impl.VaultOut{Vault: slowAnew(w), Text: "done", Envs: slowEnvelopes(c.Gen+1, r.Need, r.Many, slowSplit(v.Master, r.Need, r.Many, o.Draws))}
}

// slowNote writes a deed that is answered by ok.
func slowNote(v impl.Vault, d impl.Deed) impl.VaultOut {
	w, fits := slowWrite(v, d)
	if !fits {
		return impl.VaultOut{Vault: v, Code: impl.ErrFull}
	}
	return impl.VaultOut{Vault: w, Text: "ok"}
}

// slowData does what is done to the items and terms of an open vault.
func slowData(v impl.Vault, o impl.Op) impl.VaultOut {
	terms := v.Book.Terms
	last := terms[len(terms)-1]
	var names []string
	for _, i := range v.Book.Items {
		names = append(names, i.Name)
	}
	at := slices.Index(names, o.Name)
	switch o.Kind {
	case impl.OpPut:
		if !slowWordRight(o.Name) || !among(int64(len(o.Text)), 1, 20) {
			return impl.VaultOut{Vault: v, Code: impl.ErrForm}
		}
		return slowNote(v, put(o.Name, last.No, slowLock(slowKey(v.Master, last), 0, o.Text)))
	case impl.OpTurn:
		if len(terms) == 5 {
			return impl.VaultOut{Vault: v, Code: impl.ErrFull}
		}
		if len(o.Draws) < 4 {
			return impl.VaultOut{Vault: v, Code: impl.ErrDraws}
		}
		return slowNote(v, term(last.No+1, slowLock(v.Master, last.No+1, o.Draws[:4])))
	case impl.OpList:
		return impl.VaultOut{Vault: v, Text: strings.Join(names, ",")}
	}
	if at < 0 {
		return impl.VaultOut{Vault: v, Code: impl.ErrNone}
	}
	if o.Kind == impl.OpDel {
		return slowNote(v, del(o.Name))
	}
	item := v.Book.Items[at]
	return impl.VaultOut{Vault: v, Text: slowLock(slowKey(v.Master, terms[item.Term-1]), 0, item.Body)}
}

func slowRekey(v impl.Vault, o impl.Op) impl.VaultOut {
	switch {
	case v.Rekey.On:
		return impl.VaultOut{Vault: v, Code: impl.ErrThere}
	case !slowCanBe(o.Need, o.Many):
		return impl.VaultOut{Vault: v, Code: impl.ErrForm}
	case v.Book.Conf.Gen == 999:
		return impl.VaultOut{Vault: v, Code: impl.ErrFull}
	}
	w := slowAnew(v)
	w.Rekey = impl.Rekey{On: true, Need: o.Need, Many: o.Many}
	return impl.VaultOut{Vault: w, Text: "more"}
}

// slowReboot is what a vault with that disk is, and that Nonce, behind a reboot.
func slowReboot(safe string, nonce int64) impl.Vault {
	return slowAnew(impl.Vault{Disk: impl.Disk{Safe: safe}, Book: slowReplay(impl.TxRead(safe)...), Nonce: nonce})
}

// slowDo is a second reading of the document, kind by kind.
func slowDo(v impl.Vault, o impl.Op) impl.VaultOut {
	if !slowVaultRight(v) || !slowOpRight(o) {
		return impl.VaultOut{Code: impl.ErrForm}
	}
	v = vaultCopy(v)
	if slices.Contains([]int64{3, 4, 5, 6, 7, 8, 9, 10}, o.Kind) && !v.Open {
		return impl.VaultOut{Vault: v, Code: impl.ErrSealed}
	}
	switch o.Kind {
	case impl.OpInit:
		return slowInit(v, o)
	case impl.OpGive:
		return slowGive(v, o)
	case impl.OpSeal:
		v.Open, v.Master = false, ""
		return impl.VaultOut{Vault: slowAnew(v), Text: "sealed"}
	case impl.OpRekey:
		return slowRekey(v, o)
	case impl.OpPart:
		return slowPartOp(v, o)
	case impl.OpQuit:
		if !v.Rekey.On {
			return impl.VaultOut{Vault: v, Code: impl.ErrState}
		}
		return impl.VaultOut{Vault: slowAnew(v), Text: "ok"}
	case impl.OpReboot:
		return impl.VaultOut{Vault: slowReboot(v.Disk.Safe, v.Nonce), Text: "sealed"}
	}
	return slowData(v, o)
}

// slowDoAll does one op after the other: one that is not right leaves the vault as it is.
func slowDoAll(v impl.Vault, l []impl.Op) impl.VaultOut {
	if len(l) > 400 {
		return impl.VaultOut{Code: impl.ErrSize}
	}
	if !slowVaultRight(v) {
		return impl.VaultOut{Code: impl.ErrForm}
	}
	out := impl.VaultOut{Vault: v}
	for _, o := range l {
		was := out.Vault
		if out = slowDo(was, o); !slowOpRight(o) {
			out.Vault = was
		}
	}
	return out
}

// slowTorn cuts off what the op has written: all of it is there, or it is as if nothing were.
func slowTorn(v impl.Vault, o impl.Op, keep int64) impl.VaultOut {
	if !slowVaultRight(v) || !slowOpRight(o) {
		return impl.VaultOut{Code: impl.ErrForm}
	}
	safe := slowDo(v, o).Vault.Disk.Safe
	if keep < int64(len(safe)-len(v.Disk.Safe)) {
		safe = v.Disk.Safe
	}
	return impl.VaultOut{Vault: slowReboot(safe, v.Nonce)}
}

func sameVault(a impl.Vault, b impl.Vault) bool {
	return a.Disk == b.Disk && sameBook(a.Book, b.Book) && a.Open == b.Open && a.Master == b.Master && slices.Equal(a.Got, b.Got) && a.Nonce == b.Nonce &&
		a.Rekey.On == b.Rekey.On && a.Rekey.Need == b.Rekey.Need && a.Rekey.Many == b.Rekey.Many && slices.Equal(a.Rekey.Got, b.Rekey.Got)
}

func sameOut(a impl.VaultOut, b impl.VaultOut) bool {
	return sameVault(a.Vault, b.Vault) && a.Text == b.Text && slices.Equal(a.Envs, b.Envs) && a.Code == b.Code
}

// vaultName tells a vault, but not each byte of its disk.
func vaultName(v impl.Vault) string {
	v.Disk.Safe, v.Disk.Tail = clip(v.Disk.Safe), clip(v.Disk.Tail)
	return fmt.Sprintf("%+q", fmt.Sprintf("%+v", v))
}

func opName(o impl.Op) string {
	o.Name, o.Text, o.Draws = clip(o.Name), clip(o.Text), clip(o.Draws)
	return fmt.Sprintf("%+q", fmt.Sprintf("%+v", o))
}

func wantOut(t *testing.T, what string, got impl.VaultOut, want impl.VaultOut) {
	t.Helper()
	if got.Code != want.Code || got.Text != want.Text {
		t.Errorf("%s: got code %d, %q, want code %d, %q", what, got.Code, got.Text, want.Code, want.Text)
	}
	if !slices.Equal(got.Envs, want.Envs) {
		t.Errorf("%s: got envelopes %+v, want %+v", what, got.Envs, want.Envs)
	}
	if !sameVault(got.Vault, want.Vault) {
		t.Errorf("%s: got vault\n%s, want\n%s", what, vaultName(got.Vault), vaultName(want.Vault))
	}
}

// wantDid asks for what the slow reading tells of an op, and that the vault is right behind it.
func wantDid(t *testing.T, what string, v impl.Vault, o impl.Op) impl.VaultOut {
	t.Helper()
	got, want := impl.Do(v, o), slowDo(v, o)
	if !sameOut(got, want) {
		wantOut(t, what+": Do("+vaultName(v)+", "+opName(o)+")", got, want)
	}
	if !impl.VaultRight(got.Vault) || !slowVaultRight(got.Vault) {
		t.Errorf("%s: %s is not right any more, by %s", what, vaultName(got.Vault), opName(o))
	}
	return got
}
