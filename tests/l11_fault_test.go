package tests

import (
	"fmt"
	"maps"
	"math/rand/v2"
	"slices"
	"strings"
	"testing"

	"loop.example/g00839/impl"
)

// oneLine asks of a text whether it is a line: alone, behind other lines, and ahead of them.
func oneLine(t *testing.T, line string, right bool) {
	t.Helper()
	for ahead := range 3 {
		text := strings.Repeat("reboot\n", ahead) + line + "\n" + "list\n"
		if right {
			if got := impl.ScriptFault(text); got != (impl.ScriptOut{}) {
				t.Errorf("ScriptFault(%s): got %+v, but all are lines", scriptName(text), got)
			}
			if got := impl.ScriptRun(text); got.Code != impl.OK || got.Line != 0 || strings.Count(got.Text, "\n") != ahead+2 {
				t.Errorf("ScriptRun(%s): got %+v, want %d lines", scriptName(text), got, ahead+2)
			}
		} else {
			wantNoScript(t, "no line", text, ahead)
		}
		if slowLine(line) != right {
			t.Errorf("the slow reading goes wrong for %q", line)
		}
	}
}

func TestScriptOfNothing(t *testing.T) {
	wantScript(t, "the empty text", "", impl.ScriptOut{})
}

func TestScriptOfOneLine(t *testing.T) {
	for _, line := range []string{
		"draws x", "draws draws", "init m 1 1", "init init 2 3", "give 1", "old 1", "part 1", "put a b", "get a", "del a", "rekey 1 2",
		"seal", "list", "turn", "quit", "reboot",
	} {
		oneLine(t, line, true)
		wantNoScript(t, "without its line feed", line, 0)
		wantNoScript(t, "without its line feed, behind one", line+"\n"+line, 1)
		for i := range line {
			wantNoScript(t, "torn off", line[:i+1], 0)
			wantNoScript(t, "torn off, behind one", line+"\n"+line[:i+1], 1)
		}
	}
}

// exampleOf is a line of a word with so many words behind it as that needs, and some more or fewer.
func exampleOf(word string, more int) string {
	needs := strings.ReplaceAll(strings.ReplaceAll(lineTable()[word], "w", " a"), "n", " 3")
	if more < 0 {
		return word + needs[:max(0, len(needs)+2*more)]
	}
	return word + needs + strings.Repeat(" 3", more)
}

func TestLinesOfEachWord(t *testing.T) {
	for word, needs := range lineTable() {
		whole := exampleOf(word, 0)
		oneLine(t, whole, true)
		for many := 1; many <= 4; many++ {
			oneLine(t, exampleOf(word, many), false)
			if many <= len(needs) {
				oneLine(t, exampleOf(word, -many), false)
			}
		}
		oneLine(t, " "+whole, false)
		oneLine(t, whole+" ", false)
		oneLine(t, whole+"  ", false)
		oneLine(t, exampleOf(word, -1)+" ", false)
		for i := range len(whole) {
			if whole[i] == ' ' {
				oneLine(t, whole[:i]+" "+whole[i:], false)
				oneLine(t, whole[:i]+"  "+whole[i:], false)
				oneLine(t, whole[:i]+"\t"+whole[i+1:], false)
				oneLine(t, whole[:i]+"\u00a0"+whole[i+1:], false)
				oneLine(t, whole[:i]+"\n"+whole[i+1:], false)
			}
		}
	}
}

func TestWordsOfNoLine(t *testing.T) {
	for _, word := range []string{
		"", "boom", "lst", "run", "open", "more", "done", "ok", "error", "unlock", "torn", "new", "sync", "crash", "a", "0", "1", "12",
		"\x00", "\t", "\xff", "\u00e4", "\u00a0", "#", "#list", "-", "--list", "list;", "list,", "list\x00", "\ufefflist", "list\ufeff", "list\r", "\rlist", "\tlist", "list\t",
	} {
		oneLine(t, word, false)
		oneLine(t, word+" a", false)
		oneLine(t, word+" 1 1", false)
		oneLine(t, word+" m 1 1", false)
	}
	for word := range lineTable() {
		behind := exampleOf(word, 0)[len(word):]
		for _, other := range []string{strings.ToUpper(word), strings.ToUpper(word[:1]) + word[1:], word + "s", word + word, word[1:], word[:len(word)-1], "x" + word, "\x00" + word, word + "\x00", word + "\xff", word + "\t", word + "\r", "\u00a0" + word, word + "\u200b"} {
			oneLine(t, other+behind, false)
		}
		for i := range len(word) {
			for _, b := range []byte{0, ' ' + 1, '_', word[i] ^ 1, word[i] ^ 32, word[i] ^ 128} {
				oneLine(t, word[:i]+string([]byte{b})+word[i+1:]+behind, false)
			}
		}
	}
}

// Each word is a line just with what it has behind it: the needs of any other word do not do, unless they are its own.
func TestLinesOfOtherNeeds(t *testing.T) {
	for word, needs := range lineTable() {
		for _, behind := range []string{"", "w", "n", "ww", "wn", "nw", "nn", "www", "wwn", "wnw", "wnn", "nww", "nwn", "nnw", "nnn", "wnnn", "wwnn"} {
			line := word + strings.ReplaceAll(strings.ReplaceAll(behind, "w", " a"), "n", " 3")
			right := len(behind) == len(needs)
			for i := range min(len(needs), len(behind)) {
				if needs[i] == 'n' && behind[i] == 'w' {
					right = false
				}
			}
			oneLine(t, line, right)
		}
	}
}

// wrongNumbers are words that are no numbers.
func wrongNumbers() []string {
	return []string{
		"00", "01", "007", "000000000", "0000000001", "012345678", "1000000000", "9999999999", "1234567890", "00000000000", "4294967297", "99999999999999999999", "18446744073709551617", someText(300)[20:32],
		"-1", "-0", "+1", "+0", "-", "+", "1-", "1+", "--1", "a", "1a", "a1", "1a1", "0x1", "0b1", "0o1", "1e1", "1.", ".1", "1.0", "1,0", "1_0", "_1", "1/", "/1", "1:", ":1", "#1", "'1'",
		"\x001", "1\x00", "\t1", "1\t", "1\r", "\xff1", "1\xff", "\xb1", "\xc31", "\u0661", "\uff11", "\u00b9", "\u00bd", "1\u0300", "\u00a01", "1\u00a0", "\U0001d7cf", "\ufeff1",
	}
}

// rightNumbers are words that are numbers.
func rightNumbers() []string {
	out := []string{"0", "10", "100", "101", "1000000", "1000001", "4096", "123456789", "987654321", "100000000", "100000001", "999999999", "900000000"}
	for n := 1; n < 50; n++ {
		out = append(out, fmt.Sprint(n))
	}
	return out
}

func TestNumbersOfLines(t *testing.T) {
	for _, c := range []struct {
		words []string
		right bool
	}{{rightNumbers(), true}, {wrongNumbers(), false}} {
		for _, n := range c.words {
			for _, form := range []string{"give #", "old #", "part #", "rekey # 1", "rekey 1 #", "init m # 1", "init m 1 #", "rekey # #", "init m # #", "init # # #"} {
				oneLine(t, strings.ReplaceAll(form, "#", n), c.right)
			}
			for _, form := range []string{"draws #", "get #", "del #", "put # a", "put a #", "put # #", "init # 1 1"} {
				oneLine(t, strings.ReplaceAll(form, "#", n), true)
			}
		}
	}
	for b := range 256 {
		for _, form := range []string{"give #", "give 1#", "give #1", "rekey 1 #", "rekey # 1", "init m # 1", "init m 1 #"} {
			line := strings.ReplaceAll(form, "#", string([]byte{byte(b)}))
			if b != '\n' {
				oneLine(t, line, b > '0' && b <= '9' || b == '0' && !strings.Contains(form, "#1"))
			}
		}
	}
}

// A word is all else than a blank and a line feed: each byte may stand in it, alone, ahead of others, in them, and behind them.
func TestBytesOfWords(t *testing.T) {
	for b := range 256 {
		for _, form := range []string{"#", "#a", "a#", "a#a", "##", "\xe2#", "\xe2\x82#", "#\x82", "\xf0\x9f#\x98", "\xc3#\xa4"} {
			word := strings.ReplaceAll(form, "#", string([]byte{byte(b)}))
			if b == '\n' {
				continue
			}
			inside := b != ' '
			oneLine(t, "draws "+word, inside)
			oneLine(t, "put "+word+" x", inside)
			oneLine(t, "put x "+word, inside)
			oneLine(t, "init "+word+" 1 1", inside)
			oneLine(t, "get "+word, inside)
			oneLine(t, "del "+word, inside)
		}
	}
	for _, word := range []string{"\t", "\v", "\f", "\r", "\x00", "\u0085", "\u00a0", "\u1680", "\u2003", "\u2028", "\u2029", "\u3000", "\ufffd", "\ufeff", "\x85", "\xa0", "\xc2", "\xff\xfe", "\xed\xa0\x80", "\xf4\x90\x80\x80", "\xc0\x80", "\xc0\xa0", "\xe0\x80\xa0"} {
		oneLine(t, "draws "+word, true)
		oneLine(t, "put "+word+" "+word, true)
		oneLine(t, "put"+word+"a b", false)
		oneLine(t, word+"list", false)
		oneLine(t, "list"+word, false)
	}
}

func TestLineFeeds(t *testing.T) {
	wantNoScript(t, "a line feed alone", "\n", 0)
	wantNoScript(t, "two", "\n\n", 0)
	wantNoScript(t, "very many", strings.Repeat("\n", impl.MaxBytes), 0)
	wantNoScript(t, "ahead of a line", "\nlist\n", 0)
	wantNoScript(t, "behind a line", "list\n\n", 1)
	wantNoScript(t, "between lines", "list\nlist\n\nlist\n", 2)
	wantNoScript(t, "a blank alone", " ", 0)
	wantNoScript(t, "a blank and a line feed", " \n", 0)
	wantNoScript(t, "a blank behind a line", "list\n ", 1)
	wantNoScript(t, "a blank and a line feed, behind a line", "list\n \n", 1)
	wantNoScript(t, "another end", "list\r\n", 0)
	wantNoScript(t, "another end", "list\rlist\r", 0)
	wantNoScript(t, "another end", "list\u2028list\n", 0)
	wantNoScript(t, "another end", "list\x00", 0)
	wantNoScript(t, "the last one lacks it", "list\nlist\nlist", 2)
	wantNoScript(t, "the last one lacks it, and is none", "list\nboom", 1)
	wantNoScript(t, "one is none, and the last one lacks it", "boom\nlist", 0)
	wantNoScript(t, "a word ends at a line feed", "get\na\n", 0)
	wantNoScript(t, "a word ends at a line feed", "put a\nlist\n", 0)
}

// Of 40 lines each is done; the first one more is refused, be it a line, none, or without its line feed; one that is none ahead of it comes first.
func TestScriptsOfManyLines(t *testing.T) {
	for many := range 100 {
		text := strings.Repeat("list\n", many)
		want := impl.ScriptOut{Text: strings.Repeat("error 11\n", many)}
		if many > 40 {
			want = impl.ScriptOut{Line: 40, Code: impl.ErrSyntax}
		}
		wantScript(t, fmt.Sprintf("%d lines", many), text, want)
		for _, last := range []string{"list", "l", " ", "boom", "boom\n", "\n", "\x00", "list \n", "boom\nlist\n", "\n\n"} {
			wantNoScript(t, fmt.Sprintf("%d lines, and %q", many, last), text+last, min(many, 40))
		}
		for at := range many {
			for _, none := range []string{"boom\n", "\n", "list 1\n", "give\n", " list\n"} {
				lines := slices.Repeat([]string{"list\n"}, many)
				lines[at] = none
				wantNoScript(t, fmt.Sprintf("%q as line %d of %d", none, at, many), strings.Join(lines, ""), min(at, 40))
			}
		}
	}
	for _, many := range []int{250, 1000, 1600} {
		wantNoScript(t, "very many lines", strings.Repeat("list\n", many), 40)
		wantNoScript(t, "very many lines, the last of which is none", strings.Repeat("list\n", many-1)+"boo\n", 40)
	}
}

// Of two that are none the first is told.
func TestFirstOfTwoFaults(t *testing.T) {
	nones := []string{"boom\n", "\n", "give x\n", "give 01\n", "put a\n", "seal \n", "rekey 1\n", "init m 1\n"}
	for first := range 6 {
		for more := range 4 {
			for i, a := range nones {
				b := nones[(i+first+more)%len(nones)]
				text := strings.Repeat("reboot\n", first) + a + strings.Repeat("list\n", more) + b
				wantNoScript(t, "two faults", text, first)
				wantNoScript(t, "two faults, and an end that is missing", text+"list", first)
			}
		}
	}
}

// A script that is refused is not done at all: nothing is told of the lines ahead of the one that is none.
func TestRefusedScriptTellsNothing(t *testing.T) {
	ahead := "draws abcdefghijklmnopqrstuvwxyz\ninit master 2 3\ngive 1\ngive 3\nput a hello\nget a\n"
	wantScript(t, "as it is", ahead, impl.ScriptOut{Text: "ok\n3\nmore\nopen\nok\nhello\n"})
	for _, last := range []string{"get\n", "get a", "get a b\n", "boom\n", "\n", "give 01\n", " get a\n", strings.Repeat("get a\n", 35)} {
		line := 6
		if len(last) > 20 {
			line = 40
		}
		wantNoScript(t, "and a line that is none", ahead+last, line)
	}
	wantScript(t, "too long", ahead+strings.Repeat("get a\n", 5000), impl.ScriptOut{Code: impl.ErrSize})
}

// Of 8000 bytes all is looked at; of more nothing is, whatever stands there.
func TestScriptsOfManyBytes(t *testing.T) {
	long := "draws " + strings.Repeat("x", 7993) + "\n"
	wantScript(t, "8000 bytes", long, impl.ScriptOut{Text: "ok\n"})
	wantNoScript(t, "8000 bytes without a line feed", long[:7999]+"x", 0)
	wantNoScript(t, "8000 bytes, with a blank too many", "draws "+strings.Repeat("x", 7992)+" \n", 0)
	wantScript(t, "7999 bytes", long[:7998]+"\n", impl.ScriptOut{Text: "ok\n"})
	line := "draws " + strings.Repeat("y", 193) + "\n"
	wantScript(t, "40 lines of 200 bytes", strings.Repeat(line, 40), impl.ScriptOut{Text: strings.Repeat("ok\n", 40)})
	wantNoScript(t, "7800 bytes, and one that is none", strings.Repeat(line, 39)+strings.Repeat("z", 199)+"\n", 39)
	wantNoScript(t, "more lines, of 8000 bytes", strings.Repeat("draws y\n", 1000), 40)
	for _, size := range []int{8001, 8002, 8005, 9000, 16000, 65536} {
		for _, c := range []string{"draws " + strings.Repeat("x", size-7) + "\n", strings.Repeat("x", size), strings.Repeat("\n", size), "boom\n" + strings.Repeat("x", size-5), strings.Repeat("list\n", size/5+1)[:size], strings.Repeat("\x00", size), strings.Repeat(" ", size), someText(size)} {
			wantScript(t, fmt.Sprintf("%d bytes", size), c, impl.ScriptOut{Code: impl.ErrSize})
		}
	}
	for _, size := range []int{1, 2, 100, 7999, 8000} {
		wantNoScript(t, "bytes of all kinds", someText(size), 0)
		wantNoScript(t, "blanks", strings.Repeat(" ", size), 0)
		wantNoScript(t, "nought bytes", strings.Repeat("\x00", size), 0)
	}
}

// spoiled turns a script: a byte, a piece or a line of it.
func spoiled(r *rand.Rand, text string) string {
	at := r.IntN(len(text) + 1)
	to := at + r.IntN(min(8, len(text)-at+1))
	pieces := []string{"", " ", "  ", "\n", "\n\n", "0", "00", "1", "-", "a", "\x00", "\xff", "\t", "\r", "list\n", "seal\n", "boom\n", "get a\n", "give 1\n", " 1", " a", "123456789", string([]byte{byte(r.IntN(256))})}
	return text[:at] + pieces[r.IntN(len(pieces))] + text[to:]
}

// Scripts that are spoiled at any place are refused where the slow reading says so.
func TestFaultsOfSpoiledScripts(t *testing.T) {
	r := rand.New(rand.NewPCG(12, 1))
	words := slices.Sorted(maps.Keys(lineTable()))
	told := map[int64]int{}
	for range 30000 {
		text := ""
		for range r.IntN(45) {
			text += exampleOf(words[r.IntN(len(words))], 0) + "\n"
		}
		for range 1 + r.IntN(2) {
			text = spoiled(r, text)
		}
		want := slowFault(text)
		told[want.Line]++
		if got := impl.ScriptFault(text); got != want {
			t.Fatalf("ScriptFault(%q): got %+v, want %+v", text, got, want)
		}
	}
	for line := range int64(41) {
		if told[line] < 20 {
			t.Errorf("line %d is told just %d times", line, told[line])
		}
	}
}

func TestScriptsOfAnyBytes(t *testing.T) {
	r := rand.New(rand.NewPCG(12, 2))
	letters := []string{"\n", " ", "0", "1", "9", "a", "\x00", "\xff", "draws", "init", "give", "old", "part", "put", "get", "del", "rekey", "seal", "list", "turn", "quit", "reboot"}
	right := 0
	for range 100000 {
		text := ""
		for range r.IntN(7) {
			text += letters[r.IntN(len(letters))]
		}
		text += []string{"", "\n"}[r.IntN(2)]
		if len(wantAsSlow(t, "any bytes", text)) > 0 {
			right++
		}
	}
	if right < 1000 {
		t.Errorf("just %d are right", right)
	}
}
