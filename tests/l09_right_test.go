package tests

import (
	"math"
	"slices"
	"strings"
	"testing"

	"loop.example/g00839/impl"
)

// held is a vault, with the master that opens it, and the envelopes of now.
type held struct {
	vault  impl.Vault
	master string
	envs   []impl.Env
}

func initOp(master string, need int64, many int64, draws string) impl.Op {
	return impl.Op{Kind: impl.OpInit, Text: master, Need: need, Many: many, Draws: draws}
}

func putOp(name string, text string) impl.Op {
	return impl.Op{Kind: impl.OpPut, Name: name, Text: text}
}

func named(kind int64, name string) impl.Op {
	return impl.Op{Kind: kind, Name: name}
}

func turnOp(draws string) impl.Op {
	return impl.Op{Kind: impl.OpTurn, Draws: draws}
}

func rekeyOp(need int64, many int64) impl.Op {
	return impl.Op{Kind: impl.OpRekey, Need: need, Many: many}
}

// giveOp gives an envelope at the time that the vault is in.
func giveOp(v impl.Vault, e impl.Env) impl.Op {
	return impl.Op{Kind: impl.OpGive, Text: slowEnvBytes(e), Nonce: v.Nonce}
}

func partOp(v impl.Vault, e impl.Env, draws string) impl.Op {
	return impl.Op{Kind: impl.OpPart, Text: slowEnvBytes(e), Nonce: v.Nonce, Draws: draws}
}

// begun is a vault that has begun, but was not opened yet.
func begun(master string, need int64, many int64) held {
	draws := someDraws(int64(len(master))*(need-1)+4, len(master)+int(many))
	out := slowDo(impl.Vault{}, initOp(master, need, many, draws))
	return held{out.Vault, master, out.Envs}
}

// by is it behind ops that each do what they are for.
func (h held) by(ops ...impl.Op) held {
	for _, o := range ops {
		out := slowDo(h.vault, o)
		if out.Code != impl.OK {
			panic(out.Code)
		}
		h.vault = out.Vault
		if len(out.Envs) > 0 {
			h.envs = out.Envs
		}
	}
	return h
}

// given is it behind its first envelopes, given one by one.
func (h held) given(many int) held {
	for _, e := range h.envs[:many] {
		h = h.by(giveOp(h.vault, e))
	}
	return h
}

func (h held) opened() held {
	return h.given(int(h.vault.Book.Conf.Need))
}

// parted is it behind its last envelopes, given one by one to make new ones.
func (h held) parted(many int, draws string) held {
	l := slices.Clone(h.envs)
	slices.Reverse(l)
	for _, e := range l[:many] {
		h = h.by(partOp(h.vault, e, draws))
	}
	return h
}

func (h held) at(nonce int64) held {
	h.vault.Nonce = nonce
	return h
}

// filled is it with so many bytes left on its disk, which an item of the name fill takes.
func (h held) filled(left int) held {
	for {
		gap := 3000 - left - len(h.vault.Disk.Safe)
		switch {
		case gap == 0:
			return h
		case gap > 34+15:
			h = h.by(putOp("fill", someText(20)))
		case gap > 34:
			h = h.by(putOp("fill", someText(gap/2-14)))
		default:
			h = h.by(putOp("fill", someText(gap-14)))
		}
	}
}

// handMade is an open vault of a Conf and lists of deeds of its own, behind the first two deeds.
func handMade(master string, c impl.Conf, lists ...[]impl.Deed) held {
	c.Check = trueCrc("check " + master)
	lists = append([][]impl.Deed{{{Kind: impl.DeConf, Conf: c}, term(1, "\x07Key")}}, lists...)
	h := held{master: master}
	for _, l := range lists {
		h.vault.Disk.Safe += slowTx(l...)
	}
	h.vault.Book = slowReplay(lists...)
	h.vault.Open, h.vault.Master = true, master
	if len(master) <= 16 {
		h.envs = slowEnvelopes(c.Gen, c.Need, c.Many, slowSplit(master, c.Need, c.Many, someDraws(150, 5)))
	}
	return h
}

// closed is it as behind a reboot.
func (h held) closed() held {
	h.vault = slowReboot(h.vault.Disk.Safe, h.vault.Nonce)
	return h
}

// checkIsNought is a master whose CheckOf is 0.
const checkIsNought = "\xaa\n7\x00"

// someData puts items, of two terms.
func someData() []impl.Op {
	return []impl.Op{putOp("b", "text of b"), putOp("aa", "\x00\xff\x80"), turnOp("\x01\x02\x03\xf4rest"), putOp("zz", someText(20)), putOp("fill", "f"), putOp("b", "b anew")}
}

// heldOnes are right vaults: of each state that there is, and of the edges.
func heldOnes() []held {
	two := begun("master", 2, 3)
	three := begun("\x00\xffkey\x80", 3, 5)
	data := two.opened().by(someData()...)
	many := three.opened().by(someData()...)
	ten := begun(someText(16), 10, 20)
	one := begun("m", 1, 1)
	rekeyed := data.by(rekeyOp(1, 4)).parted(2, "")
	last := handMade("ends", impl.Conf{Gen: 999, Need: 3, Many: 4})
	terms := []impl.Op{turnOp("2222"), turnOp("3333"), putOp("n", "n"), turnOp("4444"), turnOp("5555"), putOp("o", "o")}
	full := data.by(putOp("c", "c"), putOp("d", "d"), putOp("e", "e"), putOp("f", "f"))
	return []held{{vault: impl.Vault{}}, {vault: impl.Vault{Nonce: 7}}, {vault: impl.Vault{Nonce: 1000000}},
		two, two.given(1), two.opened(), data, data.by(rekeyOp(3, 4)), data.by(rekeyOp(10, 20)).parted(1, ""), data.by(impl.Op{Kind: impl.OpSeal}), data.closed(), data.closed().given(1),
		three, three.given(1), three.given(2), many, many.by(rekeyOp(2, 2)), many.by(rekeyOp(2, 2)).parted(1, ""), many.by(rekeyOp(2, 2)).parted(2, ""), many.closed().given(2),
		ten, ten.given(9), ten.opened(), ten.opened().by(rekeyOp(10, 10)).parted(9, ""), one, one.opened(), one.opened().by(rekeyOp(2, 3)), one.opened().by(putOp("a", "v")).closed(),
		rekeyed, rekeyed.closed(), rekeyed.closed().opened(), last, last.closed(), last.closed().given(2), two.opened().by(terms...), full, full.by(rekeyOp(2, 20)).parted(1, ""), full.closed(),
		handMade(checkIsNought, impl.Conf{Gen: 998, Need: 2, Many: 20}).by(someData()...), handMade(checkIsNought, impl.Conf{Gen: 998, Need: 2, Many: 20}).closed().given(1),
		data.filled(0), data.filled(1), data.filled(14), data.filled(40), data.filled(0).closed(), data.filled(8).by(rekeyOp(1, 1)).parted(1, ""),
		two.at(1000000), two.at(999999).given(1), two.at(1000000).given(1), data.at(999999), data.at(1000000), data.at(999999).by(rekeyOp(2, 3)).parted(1, ""), data.at(1000000).by(rekeyOp(2, 3)).parted(1, "")}
}

func rightVaults() []impl.Vault {
	var out []impl.Vault
	for _, h := range heldOnes() {
		out = append(out, h.vault)
	}
	empty := vaultCopy(out[3])
	empty.Got, empty.Rekey.Got, empty.Book.Items = []impl.Env{}, []impl.Env{}, []impl.Item{}
	bare := impl.Vault{Book: impl.Book{Terms: []impl.Term{}, Items: []impl.Item{}}, Got: []impl.Env{}}
	// On, of a Gen that has no next one.
	last := handMade("ends", impl.Conf{Gen: 999, Need: 2, Many: 4})
	last.vault.Rekey = impl.Rekey{On: true, Need: 2, Many: 3, Got: last.envs[1:2]}
	return append(out, empty, bare, last.vault)
}

// wrongVault is a vault of which one part is not right.
type wrongVault struct {
	what  string
	vault impl.Vault
}

// turned is a right vault, turned in one thing.
func turned(what string, h held, turn func(v *impl.Vault)) wrongVault {
	v := vaultCopy(h.vault)
	turn(&v)
	return wrongVault{what, v}
}

// onDisk is a sealed vault of a disk, and the book that is read of it.
func onDisk(what string, d impl.Disk) wrongVault {
	return wrongVault{what, impl.Vault{Disk: d, Book: slowReplay(impl.TxRead(d.Safe)...)}}
}

func wrongDiskVaults() []wrongVault {
	data := begun("master", 2, 3).opened().by(someData()...)
	safe := data.vault.Disk.Safe
	long := data.filled(0).vault.Disk.Safe
	out := []wrongVault{
		turned("a Tail", data, func(v *impl.Vault) { v.Disk.Tail = "x" }),
		turned("a Tail that could be read", data, func(v *impl.Vault) { v.Disk.Tail = slowTx(del("b")) }),
		onDisk("a Tail, of a new one", impl.Disk{Tail: "\x00"}),
		onDisk("all in the Tail", impl.Disk{Tail: safe}),
		turned("too long by one", data.filled(0), func(v *impl.Vault) { v.Disk.Safe += "x" }),
		turned("nothing on it", data, func(v *impl.Vault) { v.Disk.Safe = "" }),
		turned("another disk", data, func(v *impl.Vault) { v.Disk.Safe = begun("master", 2, 3).vault.Disk.Safe }),
	}
	more := long + slowTx(put("fill", 2, "v"))
	out = append(out, onDisk("too long, all of which can be done", impl.Disk{Safe: more}), onDisk("very long", impl.Disk{Safe: strings.Repeat("x", impl.MaxBytes+1)}))
	for _, none := range []string{"x", "\x00", "\x80", "\xff\xff", slowText(""), slowText("abcd"), slowSeal(slowTogether(1, del("b"))), slowTx(del("b"))[:5]} {
		out = append(out, onDisk("what is not read, alone", impl.Disk{Safe: none}), onDisk("what is not read, behind it", impl.Disk{Safe: safe + none}), onDisk("what is not read, ahead of it", impl.Disk{Safe: none + safe}))
	}
	for _, bad := range []impl.Deed{del("nothere"), term(4, "k"), put("a", 3, "v")} {
		out = append(out, onDisk("what can not be done, at the end", impl.Disk{Safe: safe + slowTx(bad)}), onDisk("what can not be done, with what can", impl.Disk{Safe: safe + slowTx(put("q", 1, "v"), bad)}),
			onDisk("what can not be done, ahead of what can", impl.Disk{Safe: safe + slowTx(bad) + slowTx(put("q", 1, "v"))}), onDisk("what can not be done, at first", impl.Disk{Safe: slowTx(bad) + safe}))
	}
	for i := 1; i < len(safe); i++ {
		if v := onDisk("cut", impl.Disk{Safe: safe[:i]}); len(slowTxs(impl.TxRead(safe[:i]))) != i {
			out = append(out, v)
		}
	}
	return out
}

func slowTxs(lists [][]impl.Deed) string {
	out := ""
	for _, l := range lists {
		out += slowTx(l...)
	}
	return out
}

// wrongBookVaults have a book that is not the one of their disk, though it may be right.
func wrongBookVaults() []wrongVault {
	data := begun("master", 2, 3).opened().by(someData()...)
	var out []wrongVault
	for _, h := range []held{data, data.closed()} {
		out = append(out,
			turned("Gen", h, func(v *impl.Vault) { v.Book.Conf.Gen++ }),
			turned("Need", h, func(v *impl.Vault) { v.Book.Conf.Need-- }),
			turned("Many", h, func(v *impl.Vault) { v.Book.Conf.Many++ }),
			turned("Check", h, func(v *impl.Vault) { v.Book.Conf.Check ^= 1 }),
			turned("no Conf", h, func(v *impl.Vault) { v.Book.Conf = impl.Conf{} }),
			turned("the No of a Term", h, func(v *impl.Vault) { v.Book.Terms[1].No = 3 }),
			turned("the Locked of a Term", h, func(v *impl.Vault) { v.Book.Terms[0].Locked = "x" }),
			turned("a Term fewer", h, func(v *impl.Vault) { v.Book.Terms = v.Book.Terms[:1] }),
			turned("a Term more", h, func(v *impl.Vault) { v.Book.Terms = append(v.Book.Terms, impl.Term{No: 3, Locked: "k"}) }),
			turned("no Terms", h, func(v *impl.Vault) { v.Book.Terms = nil }),
			turned("the Name of an Item", h, func(v *impl.Vault) { v.Book.Items[0].Name = "a" }),
			turned("the Term of an Item", h, func(v *impl.Vault) { v.Book.Items[0].Term = 2 }),
			turned("the Body of an Item", h, func(v *impl.Vault) { v.Book.Items[3].Body += "x" }),
			turned("an Item fewer", h, func(v *impl.Vault) { v.Book.Items = v.Book.Items[1:] }),
			turned("an Item more", h, func(v *impl.Vault) {
				v.Book.Items = append(v.Book.Items, impl.Item{Name: "zzz", Term: 1, Body: "v"})
			}),
			turned("two Items exchanged", h, func(v *impl.Vault) {
				v.Book.Items[0], v.Book.Items[1] = v.Book.Items[1], v.Book.Items[0]
			}),
			turned("no Items", h, func(v *impl.Vault) { v.Book.Items = nil }),
			turned("no book", h, func(v *impl.Vault) { v.Book = impl.Book{} }))
	}
	return append(out, wrongVault{"a book of nothing", impl.Vault{Book: data.vault.Book}}, wrongVault{"a Term of nothing", impl.Vault{Book: impl.Book{Terms: termsOf(1)}}},
		wrongVault{"very many Items", impl.Vault{Disk: data.vault.Disk, Book: impl.Book{Conf: data.vault.Book.Conf, Terms: data.vault.Book.Terms, Items: make([]impl.Item, 1000)}}})
}

func wrongMasterVaults() []wrongVault {
	data := begun("master", 2, 3).opened().by(someData()...)
	out := []wrongVault{
		turned("a master, but sealed", data, func(v *impl.Vault) { v.Open = false }),
		turned("any master, but sealed", data.closed(), func(v *impl.Vault) { v.Master = "x" }),
		turned("open without a master", data.closed(), func(v *impl.Vault) { v.Open = true }),
		turned("another master", data, func(v *impl.Vault) { v.Master = "mastes" }),
		turned("a longer master", data, func(v *impl.Vault) { v.Master += "\x00" }),
		turned("a shorter master", data, func(v *impl.Vault) { v.Master = v.Master[1:] }),
		{"a new one, open", impl.Vault{Open: true}}, {"a new one with a master", impl.Vault{Master: checkIsNought}},
		{"a new one with a master, open", impl.Vault{Open: true, Master: checkIsNought}},
	}
	for _, master := range []string{"", someText(17), someText(32), someText(impl.MaxBytes - 6), someText(impl.MaxBytes + 1)} {
		out = append(out, wrongVault{"a master of another length, of that Check", handMade(master, impl.Conf{Gen: 1, Need: 2, Many: 3}).vault})
	}
	return out
}

// wrongEnvLists do not fit a vault of these envelopes, whose Need is 3 and whose Many is 5.
func wrongEnvLists(envs []impl.Env) map[string][]impl.Env {
	out := map[string][]impl.Env{"as many as are needed": envs[:3], "more than are needed": envs[:4], "all": envs, "very many": slices.Repeat(envs, 1000), "zero ones": make([]impl.Env, 2)}
	for at := range 2 {
		with := func(turn func(e *impl.Env)) []impl.Env {
			l := slices.Clone(envs[:2])
			turn(&l[at])
			return l
		}
		place := string(rune('0' + at))
		out["a greater Gen at "+place] = with(func(e *impl.Env) { e.Gen++ })
		out["a Gen below 1 at "+place] = with(func(e *impl.Env) { e.Gen = 0 })
		out["another Need at "+place] = with(func(e *impl.Env) { e.Need-- })
		out["a greater Need at "+place] = with(func(e *impl.Env) { e.Need++ })
		out["another Many at "+place] = with(func(e *impl.Env) { e.Many++ })
		out["X of the other one at "+place] = with(func(e *impl.Env) { e.X = envs[1-at].X })
		out["X below 1 at "+place] = with(func(e *impl.Env) { e.X = 0 })
		out["X above Many at "+place] = with(func(e *impl.Env) { e.X = 6 })
		out["X that is very great at "+place] = with(func(e *impl.Env) { e.X = math.MaxInt64 })
		out["X that is very small at "+place] = with(func(e *impl.Env) { e.X = math.MinInt64 })
		out["a longer Text at "+place] = with(func(e *impl.Env) { e.Text += "x" })
		out["a shorter Text at "+place] = with(func(e *impl.Env) { e.Text = e.Text[1:] })
		out["no Text at "+place] = with(func(e *impl.Env) { e.Text = "" })
	}
	for _, text := range []string{"", someText(17), someText(impl.MaxBytes + 1)} {
		e := envs[1]
		e.Text = text
		out["a Text of "+string(rune('0'+len(text)%10))+" bytes, alone"] = []impl.Env{e}
		f := e
		f.X = 1
		out["two Texts of "+string(rune('0'+len(text)%10))+" bytes"] = []impl.Env{e, f}
	}
	return out
}

func wrongGotVaults() []wrongVault {
	h := begun("\x00\xffkey\x80", 3, 5).opened().by(someData()...)
	one := begun("m", 1, 2)
	out := []wrongVault{
		turned("Got of an open one", h, func(v *impl.Vault) { v.Got = h.envs[:1] }),
		turned("Got of one with a Rekey", h.by(rekeyOp(2, 2)), func(v *impl.Vault) { v.Got = h.envs[:1] }),
		turned("Got of Need 1", one, func(v *impl.Vault) { v.Got = one.envs[:1] }),
		{"Got of a new one", impl.Vault{Got: h.envs[:1]}}, {"a zero Got of a new one", impl.Vault{Got: make([]impl.Env, 1)}},
		turned("Rekey's Got of Need 1", one.opened().by(rekeyOp(2, 3)), func(v *impl.Vault) { v.Rekey.Got = one.envs[:1] }),
		turned("Rekey's Got, but it is not On", h, func(v *impl.Vault) { v.Rekey.Got = h.envs[:1] }),
		turned("Rekey's Got is as Rekey's Need", h.by(rekeyOp(10, 20)), func(v *impl.Vault) { v.Rekey.Got = h.envs[:4] }),
	}
	for what, l := range wrongEnvLists(h.envs) {
		out = append(out, turned("Got: "+what, h.closed(), func(v *impl.Vault) { v.Got = l }), turned("Rekey's Got: "+what, h.by(rekeyOp(2, 2)), func(v *impl.Vault) { v.Rekey.Got = l }))
	}
	return out
}

func wrongRekeyVaults() []wrongVault {
	data := begun("master", 2, 3).opened().by(someData()...)
	on := data.by(rekeyOp(3, 4))
	out := []wrongVault{
		turned("not On, with a Need", data, func(v *impl.Vault) { v.Rekey.Need = 1 }),
		turned("not On, with a Many", data, func(v *impl.Vault) { v.Rekey.Many = 1 }),
		turned("not On, with both", on, func(v *impl.Vault) { v.Rekey.On = false }),
		turned("On, but sealed", data.closed(), func(v *impl.Vault) { v.Rekey = on.vault.Rekey }),
		turned("On, but zero", data, func(v *impl.Vault) { v.Rekey.On = true }),
		{"On, of a new one", impl.Vault{Rekey: impl.Rekey{On: true, Need: 1, Many: 1}}},
		turned("Many below Need", on, func(v *impl.Vault) { v.Rekey.Many = 2 }),
		turned("Need above Many", on, func(v *impl.Vault) { v.Rekey.Need = 5 }),
	}
	for _, no := range append(wrongNeeds(), 11) {
		out = append(out, turned("no Need", on, func(v *impl.Vault) { v.Rekey.Need = no }), turned("no Need, as many", on, func(v *impl.Vault) { v.Rekey.Need, v.Rekey.Many = no, no }),
			turned("no Need, of 20", on, func(v *impl.Vault) { v.Rekey.Need, v.Rekey.Many = no, 20 }))
	}
	for _, no := range wrongNeeds() {
		out = append(out, turned("no Many", on, func(v *impl.Vault) { v.Rekey.Many = no }))
	}
	return out
}

func wrongVaults() []wrongVault {
	out := slices.Concat(wrongDiskVaults(), wrongBookVaults(), wrongMasterVaults(), wrongGotVaults(), wrongRekeyVaults())
	for _, no := range wrongTimes() {
		for _, h := range []held{{}, begun("master", 2, 3), begun("master", 2, 3).opened()} {
			out = append(out, turned("Nonce", h, func(v *impl.Vault) { v.Nonce = no }))
		}
	}
	return out
}

func TestVaultRight(t *testing.T) {
	for _, v := range rightVaults() {
		if !impl.VaultRight(v) || !slowVaultRight(v) {
			t.Errorf("%s is right", vaultName(v))
		}
	}
	for _, w := range wrongVaults() {
		if impl.VaultRight(w.vault) || slowVaultRight(w.vault) {
			t.Errorf("%s: %s is not right", w.what, vaultName(w.vault))
		}
	}
}

func TestVaultRightAtEachTime(t *testing.T) {
	for _, h := range []held{{}, begun("master", 2, 3), begun("master", 2, 3).opened().by(rekeyOp(2, 3))} {
		for _, n := range lockTimes() {
			if v := h.at(n).vault; !impl.VaultRight(v) {
				t.Errorf("Nonce %d: %s is right", n, vaultName(v))
			}
		}
	}
}

// Envelopes that fit may be of any Texts of one length, be they of the master or not, and in any order.
func TestVaultRightOfEnvelopesThatFit(t *testing.T) {
	h := begun("master", 4, 20)
	on := h.opened().by(rekeyOp(1, 1))
	for _, text := range envTexts() {
		var l []impl.Env
		for _, x := range []int64{20, 1, 7} {
			l = append(l, impl.Env{Gen: 1, Need: 4, Many: 20, X: x, Text: text})
			for _, w := range []wrongVault{turned("Got", h, func(v *impl.Vault) { v.Got = l }), turned("Rekey's Got", on, func(v *impl.Vault) { v.Rekey.Got = l })} {
				if !impl.VaultRight(w.vault) {
					t.Errorf("%s: %s is right", w.what, vaultName(w.vault))
				}
			}
		}
	}
}

func TestVaultNew(t *testing.T) {
	if v := impl.VaultNew(); !sameVault(v, impl.Vault{}) || !impl.VaultRight(v) {
		t.Errorf("got %+v", v)
	}
}

// fullOp is an op with each field as long, or as great, as it may be.
func fullOp(kind int64) impl.Op {
	return impl.Op{Kind: kind, Name: someText(20), Text: someText(200), Nonce: 1000000, Need: 1000000, Many: 1000000, Draws: someText(200)}
}

// wrongOps are those in which one field is not right.
func wrongOps() []impl.Op {
	var out []impl.Op
	for _, no := range []int64{0, -1, 13, 14, 255, 256 + 1, 1<<32 + 1, -1 << 32, math.MinInt64, math.MinInt64 + 1, math.MaxInt64, math.MaxInt64 - 1} {
		out = append(out, impl.Op{Kind: no}, fullOp(no))
	}
	for kind := int64(1); kind <= 12; kind++ {
		for _, o := range []impl.Op{{Kind: kind}, fullOp(kind)} {
			for _, size := range []int{21, 22, 256, 276, impl.MaxBytes, impl.MaxBytes + 1} {
				o.Name = someText(size)
				out = append(out, o)
			}
			o.Name = ""
			for _, size := range []int{201, 202, 256, 456, impl.MaxBytes, impl.MaxBytes + 1} {
				long, draws := o, o
				long.Text, draws.Draws = someText(size), someText(size)
				out = append(out, long, draws)
			}
			for _, no := range wrongTimes() {
				nonce, need, many := o, o, o
				nonce.Nonce, need.Need, many.Many = no, no, no
				out = append(out, nonce, need, many)
			}
		}
	}
	return out
}

func TestOpRight(t *testing.T) {
	for kind := int64(1); kind <= 12; kind++ {
		for _, o := range []impl.Op{{Kind: kind}, fullOp(kind), {Kind: kind, Name: "not a word!"}, {Kind: kind, Nonce: 5, Need: 11, Many: 21}} {
			if !impl.OpRight(o) {
				t.Errorf("%s is right", opName(o))
			}
		}
	}
	for _, o := range wrongOps() {
		if impl.OpRight(o) {
			t.Errorf("%s is not right", opName(o))
		}
	}
}

// oneOfEach is an op of each kind that there is, with what it may need.
func oneOfEach() []impl.Op {
	h := begun("master", 2, 3)
	return []impl.Op{initOp("master", 2, 3, someDraws(10, 1)), giveOp(h.vault, h.envs[0]), {Kind: impl.OpSeal}, putOp("a", "v"), named(impl.OpGet, "b"), named(impl.OpDel, "b"),
		{Kind: impl.OpList}, turnOp("draws"), rekeyOp(2, 3), partOp(h.vault, h.envs[0], someDraws(10, 2)), {Kind: impl.OpQuit}, {Kind: impl.OpReboot}}
}

// A vault that is not right is refused whatever is asked, and all else is zero.
func TestWrongVaultsAreRefused(t *testing.T) {
	refused := impl.VaultOut{Code: impl.ErrForm}
	for _, w := range wrongVaults() {
		for _, o := range append(oneOfEach(), impl.Op{}) {
			wantOut(t, "Do: "+w.what, impl.Do(w.vault, o), refused)
			wantOut(t, "Torn: "+w.what, impl.Torn(w.vault, o, 5), refused)
		}
		for _, l := range [][]impl.Op{nil, {{}}, {{Kind: impl.OpReboot}}, oneOfEach()} {
			wantOut(t, "DoAll: "+w.what, impl.DoAll(w.vault, l), refused)
		}
	}
}

// An op that is not right is refused by each vault, and all else is zero.
func TestWrongOpsAreRefused(t *testing.T) {
	refused := impl.VaultOut{Code: impl.ErrForm}
	data := begun("master", 2, 3).opened().by(someData()...)
	for _, h := range []held{{}, begun("master", 2, 3).given(1), data, data.by(rekeyOp(1, 1)).parted(1, "")} {
		for _, o := range wrongOps() {
			wantOut(t, "Do: "+opName(o), impl.Do(h.vault, o), refused)
			wantOut(t, "Torn: "+opName(o), impl.Torn(h.vault, o, 5), refused)
		}
	}
}
