package tests

import (
	"fmt"
	"strings"
	"testing"

	"loop.example/g00839/impl"
)

// told is a line of a script, and what is told of it.
type told struct {
	line string
	want string
}

const letters = "abcdefghijklmnopqrstuvwxyz"

// wantLines asks what is told of each line, of the first lines too, and that the slow reading tells the same.
func wantLines(t *testing.T, what string, l ...told) {
	t.Helper()
	text, want := "", ""
	for _, c := range l {
		text += c.line + "\n"
		want += c.want + "\n"
		wantScript(t, what, text, impl.ScriptOut{Text: want})
	}
	if slow, _ := slowScript(text); slow.Text != want {
		t.Errorf("%s: the slow reading tells %q of %q", what, slow.Text, text)
	}
}

// inited are lines, behind those that begin a vault of master, 2 of 3.
func inited(l ...told) []told {
	return append([]told{{"draws " + letters, "ok"}, {"init master 2 3", "3"}}, l...)
}

// unlocked are lines, behind those that begin a vault and open it.
func unlocked(l ...told) []told {
	return append(inited(told{"give 1", "more"}, told{"give 3", "open"}), l...)
}

// rekeyed are lines, behind those that part it anew, 3 of 5, and seal it.
func rekeyed(l ...told) []told {
	return append(unlocked(told{"rekey 3 5", "more"}, told{"part 1", "more"}, told{"part 2", "5"}, told{"seal", "sealed"}), l...)
}

func TestScriptOfAWholeLife(t *testing.T) {
	wantLines(t, "a life", unlocked([]told{
		{"list", ""}, {"put b hello", "ok"}, {"put a \u00e4\x00", "ok"}, {"put c 1", "ok"}, {"list", "a,b,c"}, {"get b", "hello"}, {"get a", "\u00e4\x00"},
		{"turn", "ok"}, {"put b anew", "ok"}, {"get b", "anew"}, {"get c", "1"}, {"del c", "ok"}, {"get c", "error 6"},
		{"rekey 1 4", "more"}, {"part 3", "more"}, {"quit", "ok"}, {"part 3", "error 10"},
		{"rekey 1 4", "more"}, {"part 3", "more"}, {"part 1", "4"}, {"list", "a,b"}, {"seal", "sealed"}, {"list", "error 11"}, {"quit", "error 10"},
		{"old 1", "error 12"}, {"give 4", "open"}, {"get a", "\u00e4\x00"}, {"get b", "anew"}, {"del a", "ok"},
		{"reboot", "sealed"}, {"get b", "error 11"}, {"give 2", "open"}, {"list", "b"}, {"reboot", "sealed"}, {"reboot", "sealed"}, {"give 5", "error 6"},
	}...)...)
}

func TestScriptOnANewVault(t *testing.T) {
	wantLines(t, "nothing is there yet", []told{
		{"give 1", "error 6"}, {"old 1", "error 6"}, {"part 1", "error 6"}, {"put a b", "error 11"}, {"get a", "error 11"}, {"del a", "error 11"}, {"rekey 1 2", "error 11"},
		{"seal", "error 11"}, {"list", "error 11"}, {"turn", "error 11"}, {"quit", "error 10"}, {"reboot", "sealed"}, {"give 1", "error 6"},
		{"init master 2 3", "error 13"}, {"draws a", "ok"}, {"init master 2 3", "error 13"}, {"init master 3 2", "error 1"}, {"give 1", "error 6"},
	}...)
	for word := range lineTable() {
		wantAsSlow(t, "one alone", exampleOf(word, 0)+"\n")
		wantAsSlow(t, "two", strings.Repeat(exampleOf(word, 0)+"\n", 2))
	}
}

func TestScriptInit(t *testing.T) {
	draws := told{"draws " + strings.Repeat("d", 200), "ok"}
	for _, c := range []told{
		{"init m 1 1", "1"}, {"init m 1 20", "20"}, {"init m 10 10", "10"}, {"init m 10 20", "20"}, {"init 0123456789abcdef 10 20", "20"}, {"init \xff\x00\t 2 3", "3"},
		{"init 0123456789abcdefg 2 3", "error 1"}, {"init " + strings.Repeat("m", 200) + " 2 3", "error 1"}, {"init " + strings.Repeat("m", 201) + " 2 3", "error 6"},
		{"init m 0 3", "error 1"}, {"init m 0 0", "error 1"}, {"init m 11 20", "error 1"}, {"init m 10 21", "error 1"}, {"init m 3 2", "error 1"}, {"init m 1 0", "error 1"},
		{"init m 1000000 1000000", "error 1"}, {"init m 1000001 2", "error 6"}, {"init m 2 1000001", "error 6"}, {"init m 999999999 999999999", "error 6"}, {"init m 2 999999999", "error 6"},
		{"init " + strings.Repeat("m", 201) + " 0 999999999", "error 6"},
	} {
		again := told{"init other 1 1", "error 10"}
		if strings.HasPrefix(c.want, "error") {
			again.want = "1"
		}
		wantLines(t, "init", draws, c, again, told{"init m 0 0", "error 10"}, told{"init m 1 1000001", "error 6"})
	}
	wantLines(t, "one that is refused leaves those at hand", inited(told{"init master 2 3", "error 10"}, told{"init m 1 20", "error 10"}, told{"give 4", "error 6"}, told{"give 3", "more"}, told{"old 1", "error 6"}, told{"give 2", "open"})...)
	wantLines(t, "of an open one", unlocked(told{"init master 2 3", "error 10"}, told{"list", ""})...)
}

// An op that is not right is told as what is not there, ahead of what the vault would tell of it.
func TestScriptOfOpsThatAreNotRight(t *testing.T) {
	name20, name21, text200, text201 := strings.Repeat("n", 20), strings.Repeat("n", 21), strings.Repeat("t", 200), strings.Repeat("t", 201)
	for _, c := range []struct {
		line   string
		sealed string
		open   string
	}{
		{"put " + name20 + " x", "error 11", "error 1"}, {"put " + name21 + " x", "error 6", "error 6"}, {"put a " + text200, "error 11", "error 1"}, {"put a " + text201, "error 6", "error 6"},
		{"put " + name21 + " " + text201, "error 6", "error 6"}, {"get " + name20, "error 11", "error 6"}, {"get " + name21, "error 6", "error 6"}, {"del " + name20, "error 11", "error 6"}, {"del " + name21, "error 6", "error 6"},
		{"put " + strings.Repeat("\u00e4", 10) + " x", "error 11", "error 1"}, {"put " + strings.Repeat("\u00e4", 11) + " x", "error 6", "error 6"},
		{"rekey 1000000 1000000", "error 11", "error 1"}, {"rekey 1000001 1", "error 6", "error 6"}, {"rekey 1 1000001", "error 6", "error 6"}, {"rekey 999999999 999999999", "error 6", "error 6"},
		{"init " + text201 + " 1 1", "error 6", "error 6"}, {"init m 1000001 1", "error 6", "error 6"}, {"init m 1 1000001", "error 6", "error 6"}, {"init " + text200 + " 1 1", "error 10", "error 10"},
		{"give 0", "error 6", "error 6"}, {"give 4", "error 6", "error 6"}, {"give 1000001", "error 6", "error 6"}, {"give 999999999", "error 6", "error 6"},
		{"old 0", "error 6", "error 6"}, {"old 1", "error 6", "error 6"}, {"part 0", "error 6", "error 6"}, {"part 4", "error 6", "error 6"}, {"part 999999999", "error 6", "error 6"}, {"part 1", "error 11", "error 10"},
	} {
		wantLines(t, "not right, sealed", inited(told{c.line, c.sealed}, told{"give 1", "more"}, told{c.line, c.sealed}, told{"give 2", "open"}, told{"list", ""})...)
		wantLines(t, "not right, open", unlocked(told{c.line, c.open}, told{"list", ""}, told{"rekey 1 1", "more"}, told{"quit", "ok"})...)
	}
}

func TestScriptPutGetDelList(t *testing.T) {
	text20, text21 := strings.Repeat("t", 20), strings.Repeat("t", 21)
	wantLines(t, "put", unlocked([]told{
		{"put a " + text20, "ok"}, {"get a", text20}, {"put a " + text21, "error 1"}, {"get a", text20}, {"put abcdefgh x", "ok"}, {"put abcdefghi x", "error 1"}, {"put A x", "error 1"},
		{"put a1 x", "error 1"}, {"put a_ x", "error 1"}, {"put \xff x", "error 1"}, {"put a\x00 x", "error 1"}, {"put a\t x", "error 1"}, {"list", "a,abcdefgh"},
		{"get b", "error 6"}, {"get A", "error 6"}, {"get \xff", "error 6"}, {"del b", "error 6"}, {"del \x00", "error 6"}, {"del a", "ok"}, {"del a", "error 6"}, {"list", "abcdefgh"}, {"del abcdefgh", "ok"}, {"list", ""},
		{"put a \xff\x00\t\r", "ok"}, {"get a", "\xff\x00\t\r"}, {"put a error", "ok"}, {"get a", "error"}, {"put a 00", "ok"}, {"get a", "00"}, {"put put put", "ok"}, {"get put", "put"}, {"put b \u00a0\u2028\u0085", "ok"}, {"get b", "\u00a0\u2028\u0085"},
	}...)...)
	full := unlocked()
	for _, name := range []string{"h", "g", "f", "e", "d", "c", "b", "a"} {
		full = append(full, told{"put " + name + " is" + name, "ok"})
	}
	wantLines(t, "eight of them", append(full, []told{
		{"put i isi", "error 9"}, {"list", "a,b,c,d,e,f,g,h"}, {"put d other", "ok"}, {"get d", "other"}, {"get i", "error 6"}, {"del a", "ok"}, {"put i isi", "ok"}, {"put a isa", "error 9"}, {"list", "b,c,d,e,f,g,h,i"},
		{"seal", "sealed"}, {"put b x", "error 11"}, {"get b", "error 11"}, {"del b", "error 11"}, {"list", "error 11"}, {"give 2", "more"}, {"get b", "error 11"}, {"give 1", "open"}, {"get b", "isb"}, {"get d", "other"},
	}...)...)
}

// Draws are none at first, and then those of the last line that gave some, as often as they are used.
func TestScriptDraws(t *testing.T) {
	wantLines(t, "never given", told{"init m 1 1", "error 13"}, told{"init m 2 2", "error 13"}, told{"init m 0 1", "error 1"})
	wantLines(t, "too few", told{"draws abc", "ok"}, told{"init m 1 1", "error 13"}, told{"draws abcd", "ok"}, told{"init m 2 2", "error 13"}, told{"init m 1 1", "1"})
	wantLines(t, "just enough", told{"draws " + letters[:9], "ok"}, told{"init master 2 3", "error 13"}, told{"draws " + letters[:10], "ok"}, told{"init master 2 3", "3"})
	wantLines(t, "given anew, fewer", told{"draws " + letters, "ok"}, told{"draws abc", "ok"}, told{"init m 1 1", "error 13"}, told{"draws x", "ok"}, told{"draws " + letters, "ok"}, told{"init m 1 1", "1"})
	wantLines(t, "not one behind the other", told{"draws ab", "ok"}, told{"draws cd", "ok"}, told{"init m 1 1", "error 13"})
	wantLines(t, "of the most", told{"draws " + strings.Repeat("d", 200), "ok"}, told{"init m 1 1", "1"}, told{"give 1", "open"}, told{"turn", "ok"}, told{"turn", "ok"}, told{"rekey 1 1", "more"}, told{"part 1", "1"})
	many := strings.Repeat("d", 201)
	wantLines(t, "too many", told{"draws " + many, "ok"}, told{"init m 1 1", "error 6"}, told{"init m 0 0", "error 6"}, told{"turn", "error 6"}, told{"part 1", "error 6"}, told{"draws " + many[1:], "ok"}, told{"init m 1 1", "1"})
	wantLines(t, "too many for those that need none", unlocked([]told{
		{"draws " + strings.Repeat("d", 5000), "ok"}, {"turn", "error 6"}, {"put a b", "ok"}, {"get a", "b"}, {"list", "a"}, {"del a", "ok"}, {"rekey 1 2", "more"}, {"part 1", "error 6"}, {"quit", "ok"}, {"seal", "sealed"},
		{"give 2", "more"}, {"turn", "error 6"}, {"give 1", "open"}, {"init m 1 1", "error 6"}, {"reboot", "sealed"}, {"old 1", "error 6"}, {"draws " + letters, "ok"}, {"turn", "error 11"},
	}...)...)
	wantLines(t, "by bytes, and not by letters", told{"draws \u00e4\u00e4", "ok"}, told{"init m 1 1", "1"})
	wantLines(t, "too many by bytes", told{"draws " + strings.Repeat("\u00e4", 101), "ok"}, told{"init m 1 1", "error 6"}, told{"draws " + strings.Repeat("\u00e4", 100), "ok"}, told{"init m 1 1", "1"})
	wantLines(t, "of any bytes", told{"draws \x00\xff\t\r", "ok"}, told{"init m 1 1", "1"}, told{"give 1", "open"}, told{"put a b", "ok"}, told{"turn", "ok"}, told{"get a", "b"})
	wantLines(t, "a reboot leaves them", told{"draws abcd", "ok"}, told{"reboot", "sealed"}, told{"init m 1 1", "1"}, told{"reboot", "sealed"}, told{"give 1", "open"}, told{"turn", "ok"})
}

func TestScriptTurn(t *testing.T) {
	wantLines(t, "turn", unlocked([]told{
		{"put a one", "ok"}, {"draws abc", "ok"}, {"turn", "error 13"}, {"draws abcd", "ok"}, {"turn", "ok"}, {"put b two", "ok"}, {"draws wxyz", "ok"}, {"turn", "ok"}, {"turn", "ok"}, {"put c four", "ok"}, {"turn", "ok"}, {"put d five", "ok"},
		{"turn", "error 9"}, {"draws abc", "ok"}, {"turn", "error 9"}, {"draws " + strings.Repeat("d", 201), "ok"}, {"turn", "error 6"},
		{"get a", "one"}, {"get b", "two"}, {"get c", "four"}, {"get d", "five"}, {"seal", "sealed"}, {"give 1", "more"}, {"give 2", "open"}, {"get b", "two"}, {"get c", "four"}, {"reboot", "sealed"}, {"give 3", "more"}, {"give 2", "open"}, {"get a", "one"}, {"get d", "five"},
	}...)...)
}

func TestScriptGive(t *testing.T) {
	wantLines(t, "give", inited([]told{
		{"give 0", "error 6"}, {"give 4", "error 6"}, {"give 2", "more"}, {"give 2", "error 7"}, {"give 0", "error 6"}, {"old 2", "error 6"}, {"give 3", "open"}, {"give 1", "error 10"}, {"give 0", "error 6"}, {"give 4", "error 6"},
		{"seal", "sealed"}, {"give 3", "more"}, {"reboot", "sealed"}, {"give 3", "more"}, {"quit", "error 10"}, {"give 3", "error 7"}, {"give 1", "open"}, {"seal", "sealed"}, {"seal", "error 11"},
	}...)...)
	wantLines(t, "one is enough", told{"draws abcd", "ok"}, told{"init m 1 2", "2"}, told{"give 2", "open"}, told{"give 2", "error 10"}, told{"reboot", "sealed"}, told{"give 1", "open"})
	all := []told{{"draws " + strings.Repeat("d", 200), "ok"}, {"init 0123456789abcdef 10 20", "20"}}
	for x := 20; x > 11; x-- {
		all = append(all, told{fmt.Sprintf("give %d", x), "more"})
	}
	wantLines(t, "ten of twenty", append(all, told{"give 20", "error 7"}, told{"give 21", "error 6"}, told{"give 11", "open"}, told{"give 10", "error 10"}, told{"put a b", "ok"})...)
}

func TestScriptRekey(t *testing.T) {
	wantLines(t, "rekey", unlocked([]told{
		{"part 1", "error 10"}, {"quit", "error 10"}, {"rekey 0 1", "error 1"}, {"rekey 11 20", "error 1"}, {"rekey 10 21", "error 1"}, {"rekey 3 2", "error 1"}, {"rekey 10 20", "more"}, {"rekey 1 1", "error 7"}, {"rekey 0 0", "error 7"}, {"rekey 1 1000001", "error 6"},
		{"part 1", "more"}, {"part 1", "error 7"}, {"part 4", "error 6"}, {"part 0", "error 6"}, {"give 2", "error 10"}, {"put a b", "ok"}, {"part 3", "error 13"}, {"part 3", "error 13"}, {"part 1", "error 7"},
		{"draws " + strings.Repeat("d", 53), "ok"}, {"part 3", "error 13"}, {"draws " + strings.Repeat("d", 54), "ok"}, {"part 1", "error 7"}, {"part 3", "20"}, {"part 3", "error 10"}, {"quit", "error 10"}, {"get a", "b"},
	}...)...)
	wantLines(t, "what ends it", unlocked([]told{
		{"rekey 1 2", "more"}, {"part 1", "more"}, {"quit", "ok"}, {"quit", "error 10"}, {"rekey 1 2", "more"}, {"part 1", "more"}, {"seal", "sealed"}, {"part 2", "error 11"}, {"quit", "error 10"},
		{"give 1", "more"}, {"rekey 1 2", "error 11"}, {"give 2", "open"}, {"part 2", "error 10"}, {"rekey 1 2", "more"}, {"part 3", "more"}, {"reboot", "sealed"}, {"part 2", "error 11"}, {"give 1", "more"}, {"give 2", "open"}, {"part 2", "error 10"},
	}...)...)
	wantLines(t, "the need of ahead counts, and then that of behind", rekeyed([]told{{"give 1", "more"}, {"give 5", "more"}, {"give 3", "open"}, {"rekey 1 1", "more"}, {"part 5", "more"}, {"part 4", "more"}, {"part 1", "1"}, {"seal", "sealed"}, {"give 1", "open"}}...)...)
	wantLines(t, "by draws that are none, where none are needed", unlocked([]told{{"rekey 1 3", "more"}, {"draws x", "ok"}, {"part 1", "more"}, {"part 2", "3"}}...)...)
}

// Those at hand are the last that were told, old ones those at hand ahead of them, and no others; what tells none leaves them.
func TestScriptOldEnvelopes(t *testing.T) {
	wantLines(t, "ahead of a new parting", unlocked([]told{{"old 1", "error 6"}, {"rekey 3 5", "more"}, {"old 1", "error 6"}, {"part 1", "more"}, {"old 2", "error 6"}, {"give 1", "error 10"}, {"part 2", "5"}, {"old 1", "error 10"}, {"old 4", "error 6"}, {"give 5", "error 10"}, {"part 5", "error 10"}}...)...)
	wantLines(t, "behind it", rekeyed([]told{{"old 1", "error 12"}, {"old 2", "error 12"}, {"old 3", "error 12"}, {"old 0", "error 6"}, {"old 4", "error 6"}, {"give 6", "error 6"}, {"give 4", "more"}, {"old 3", "error 12"}, {"give 5", "more"}, {"give 4", "error 7"}, {"old 4", "error 6"}, {"give 1", "open"}}...)...)
	again := rekeyed([]told{
		{"give 4", "more"}, {"give 5", "more"}, {"give 1", "open"}, {"rekey 2 2", "more"}, {"part 5", "more"}, {"part 4", "more"}, {"part 3", "2"}, {"seal", "sealed"},
		{"old 5", "error 12"}, {"old 1", "error 12"}, {"old 6", "error 6"}, {"give 3", "error 6"}, {"give 2", "more"}, {"old 4", "error 12"}, {"give 1", "open"}, {"old 5", "error 10"},
	}...)
	wantLines(t, "behind two", again...)
	wantLines(t, "behind three", append(again, told{"rekey 1 3", "more"}, told{"part 1", "more"}, told{"part 2", "3"}, told{"reboot", "sealed"}, told{"old 3", "error 6"}, told{"old 2", "error 12"}, told{"give 3", "open"})...)
	wantLines(t, "a reboot, a seal and a refusal leave them", rekeyed([]told{{"reboot", "sealed"}, {"old 3", "error 12"}, {"init m 1 1", "error 10"}, {"old 3", "error 12"}, {"give 1", "more"}, {"give 2", "more"}, {"give 3", "open"}, {"rekey 1 1", "more"}, {"part 1", "more"}, {"quit", "ok"}, {"seal", "sealed"}, {"old 3", "error 12"}, {"give 5", "more"}, {"old 4", "error 6"}}...)...)
}

// What the sealed and the open vault tell in each other's place.
func TestScriptCodesOfEachWord(t *testing.T) {
	for _, c := range []struct{ line, new, sealed, open, on string }{
		{"draws x", "ok", "ok", "ok", "ok"},
		{"init master 2 3", "3", "error 10", "error 10", "error 10"},
		{"give 1", "error 6", "more", "error 10", "error 10"},
		{"old 1", "error 6", "error 6", "error 6", "error 6"},
		{"part 1", "error 6", "error 11", "error 10", "more"},
		{"put a b", "error 11", "error 11", "ok", "ok"},
		{"put A b", "error 11", "error 11", "error 1", "error 1"},
		{"get a", "error 11", "error 11", "error 6", "error 6"},
		{"del a", "error 11", "error 11", "error 6", "error 6"},
		{"rekey 2 3", "error 11", "error 11", "more", "error 7"},
		{"rekey 3 2", "error 11", "error 11", "error 1", "error 7"},
		{"seal", "error 11", "error 11", "sealed", "sealed"},
		{"list", "error 11", "error 11", "", ""},
		{"turn", "error 11", "error 11", "ok", "ok"},
		{"quit", "error 10", "error 10", "error 10", "ok"},
		{"reboot", "sealed", "sealed", "sealed", "sealed"},
	} {
		wantLines(t, "a new one", told{"draws " + letters, "ok"}, told{c.line, c.new})
		wantLines(t, "a sealed one", inited(told{c.line, c.sealed})...)
		wantLines(t, "an open one", unlocked(told{c.line, c.open})...)
		wantLines(t, "one that is rekeyed", unlocked(told{"rekey 1 2", "more"}, told{c.line, c.on})...)
	}
}

// The Nonce is that of now, whatever time it is.
func TestScriptInEachTime(t *testing.T) {
	l := inited()
	for range 12 {
		l = append(l, told{"reboot", "sealed"}, told{"give 3", "more"})
	}
	wantLines(t, "many times", append(l, told{"give 1", "open"}, told{"rekey 1 1", "more"}, told{"quit", "ok"}, told{"rekey 2 2", "more"}, told{"part 1", "more"}, told{"part 2", "2"})...)
}

// An answer is a text of its own.
func TestScriptTextIsNew(t *testing.T) {
	list := []byte("draws abcd\ninit m 1 1\ngive 1\nput a hello\nget a\nlist\n")
	text := textIn(list)
	want := "ok\n1\nopen\nok\nhello\na\n"
	got := impl.ScriptRun(text).Text
	again := impl.ScriptRun(text).Text
	wantTextsApart(t, "ScriptRun", []string{got}, []string{text, again})
	if string(list) != "draws abcd\ninit m 1 1\ngive 1\nput a hello\nget a\nlist\n" {
		t.Errorf("the script was changed: %q", list)
	}
	for i := range list {
		list[i] = '#'
	}
	if got != want || again != want {
		t.Errorf("got %q and %q, want %q", got, again, want)
	}
}
