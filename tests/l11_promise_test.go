package tests

import (
	"maps"
	"math/rand/v2"
	"slices"
	"strconv"
	"strings"
	"testing"

	"loop.example/g00839/impl"
)

// writer writes scripts of random lines, most of which are of use where they stand.
type writer struct {
	*rand.Rand
}

func (w writer) oneOf(l ...string) string {
	return l[w.IntN(len(l))]
}

// mostly is one of the first list, and at times one of the second.
func (w writer) mostly(l []string, others ...string) string {
	if w.IntN(14) == 0 {
		return w.oneOf(others...)
	}
	return w.oneOf(l...)
}

func (w writer) draws() string {
	return w.mostly([]string{letters, letters[:18], strings.Repeat("d", 200)}, "x", "abc", "abcd", strings.Repeat("d", 201), strings.Repeat("d", 400), "\x00\xff\t\xc3")
}

func (w writer) master() string {
	return w.mostly([]string{"m", "master", "\x00\xff"}, strings.Repeat("m", 16), strings.Repeat("m", 17), strings.Repeat("m", 200), strings.Repeat("m", 201))
}

// numbers are a Need and a Many, most often such as can be.
func (w writer) numbers() string {
	return w.mostly([]string{"1 1", "1 3", "2 2", "2 3", "3 3", "3 5"}, "0 1", "3 2", "11 20", "10 21", "1000001 1", "1 1000001", "10 20")
}

func (w writer) x() string {
	return w.mostly([]string{"1", "2", "3"}, "0", "4", "5", "20", "21", "999999999")
}

func (w writer) name() string {
	return w.mostly(append(eightNames(), "z"), "A", "a1", "abcdefghi", "\xff", strings.Repeat("n", 20), strings.Repeat("n", 21))
}

func (w writer) text() string {
	return w.mostly([]string{"text", "other", "\u00e4\x00", strconv.Itoa(w.IntN(1000))}, "\xff\t", strings.Repeat("t", 20), strings.Repeat("t", 21), strings.Repeat("t", 200), strings.Repeat("t", 201))
}

// some are lines that stand together often.
func (w writer) some() []string {
	switch w.IntN(10) {
	case 0:
		return []string{"draws " + w.draws()}
	case 1:
		return []string{"init " + w.master() + " " + w.numbers()}
	case 2, 3:
		return []string{"give 1", "give " + w.x(), "give 2", "give 3"}
	case 4:
		return []string{"rekey " + w.numbers(), "part 1", "part " + w.x(), "part 2", "part 3"}
	case 5:
		return []string{"rekey " + w.numbers(), "part " + w.x()}
	case 6:
		return []string{"old " + w.x(), "quit"}
	case 7:
		return []string{"put " + w.name() + " " + w.text(), "get " + w.name(), "put " + w.name() + " " + w.text(), "del " + w.name(), "list"}
	case 8:
		return []string{"draws " + w.draws(), "turn", w.oneOf("list", "turn", "quit")}
	}
	return []string{w.oneOf("seal", "reboot", "quit", "part "+w.x(), "give "+w.x())}
}

// manyPuts fill a vault, and put and turn what there is no room for.
func manyPuts() []string {
	var out []string
	for _, name := range append(eightNames(), "z") {
		out = append(out, "put "+name+" is"+name)
	}
	return append(out, "turn", "turn", "turn", "turn", "turn")
}

// lines are those of one script, 40 at most.
func (w writer) lines() []string {
	var out []string
	if w.IntN(10) > 0 {
		out = []string{"draws " + letters, "init master " + w.oneOf("1 2", "2 3", "3 3"), "give 1", "give 2", "give 3"}
	}
	if w.IntN(8) == 0 {
		out = append(out, manyPuts()...)
	}
	for range w.IntN(18) {
		out = append(out, w.some()...)
	}
	return out[:min(len(out), 40)]
}

func scriptOf(lines []string) string {
	return strings.Join(append(slices.Clone(lines), ""), "\n")
}

// outcome is what a word was told, without what stands for a text or a number.
func outcome(word string, told string) string {
	_, err := strconv.Atoi(told)
	switch {
	case strings.HasPrefix(told, "error "):
		return told
	case word == "get" || word == "list":
		return "text"
	case err == nil:
		return "many"
	}
	return told
}

// Scripts of random lines tell what the slow reading tells, and each word tells each thing that it can tell in a script.
func TestScriptsOfRandomLines(t *testing.T) {
	seen := map[string]map[string]bool{}
	for seed := range uint64(1500) {
		lines := writer{rand.New(rand.NewPCG(seed, 11))}.lines()
		told := wantAsSlow(t, "random lines", scriptOf(lines))
		if len(told) != len(lines) {
			t.Fatalf("%d lines are refused: %q", len(lines), lines)
		}
		for i, line := range lines {
			word, _, _ := strings.Cut(line, " ")
			if seen[word] == nil {
				seen[word] = map[string]bool{}
			}
			seen[word][outcome(word, told[i])] = true
		}
	}
	for word, want := range map[string]string{
		"draws": "ok", "init": "error 1,error 10,error 13,error 6,many", "give": "error 10,error 6,error 7,more,open", "old": "error 10,error 12,error 6",
		"part": "error 10,error 11,error 13,error 6,error 7,many,more", "put": "error 1,error 11,error 6,error 9,ok", "get": "error 11,error 6,text",
		"del": "error 11,error 6,ok", "rekey": "error 1,error 11,error 6,error 7,more", "seal": "error 11,sealed", "list": "error 11,text",
		"turn": "error 11,error 13,error 6,error 9,ok", "quit": "error 10,ok", "reboot": "sealed",
	} {
		if got := strings.Join(slices.Sorted(maps.Keys(seen[word])), ","); got != want {
			t.Errorf("%s tells %q, want %q", word, got, want)
		}
	}
}

// Promise 12: a script tells what it told of its first lines, whatever line stands behind them.
func TestScriptTellsAsItsFirstLines(t *testing.T) {
	for seed := range uint64(250) {
		w := writer{rand.New(rand.NewPCG(seed, 12))}
		lines := w.lines()
		whole := impl.ScriptRun(scriptOf(lines)).Text
		ahead := ""
		for many := range len(lines) {
			got := impl.ScriptRun(scriptOf(lines[:many])).Text
			if !strings.HasPrefix(whole, got) || strings.Count(got, "\n") != many || !strings.HasPrefix(got, ahead) {
				t.Fatalf("%q: the first %d tell %q, all tell %q", lines, many, got, whole)
			}
			ahead = got
			for _, next := range w.some() {
				out := impl.ScriptRun(scriptOf(lines[:many]) + next + "\n")
				last, ended := strings.CutPrefix(out.Text, got)
				if !ended || out.Code != impl.OK || strings.Index(last, "\n") != len(last)-1 {
					t.Fatalf("%q tell %q, and with %q behind them %q", lines[:many], got, next, out.Text)
				}
			}
		}
	}
}

// Promise 12: each line of the table, behind each of its lines, in each state of a vault.
func TestScriptTellsAsItDidBeforeEachLine(t *testing.T) {
	states := []string{
		"", "draws abcd\n", "draws " + letters + "\ninit master 2 3\n", "draws " + letters + "\ninit m 1 2\ngive 1\n", "draws " + letters + "\ninit m 1 2\ngive 1\nput a b\n",
		"draws " + letters + "\ninit master 2 3\ngive 1\n", "draws " + letters + "\ninit m 2 3\ngive 1\ngive 2\nrekey 1 2\npart 2\n", "draws " + letters + "\ninit m 1 2\ngive 1\nrekey 1 2\npart 1\nseal\n",
	}
	for _, state := range states {
		first := impl.ScriptRun(state)
		for word := range lineTable() {
			one := state + exampleOf(word, 0) + "\n"
			behindOne := impl.ScriptRun(one)
			if behindOne.Code != impl.OK || !strings.HasPrefix(behindOne.Text, first.Text) {
				t.Errorf("%q tells %+v, and %q %+v", state, first, one, behindOne)
			}
			wantAsSlow(t, "one behind", one)
			for next := range lineTable() {
				two := one + exampleOf(next, 0) + "\n"
				got := impl.ScriptRun(two)
				if got.Code != impl.OK || !strings.HasPrefix(got.Text, behindOne.Text) || strings.Count(got.Text, "\n") != strings.Count(two, "\n") {
					t.Errorf("%q tells %+v, and %q %+v", one, behindOne, two, got)
				}
			}
			wantNoScript(t, "what is none, behind", one+"none\n", strings.Count(one, "\n"))
		}
	}
}

// No answer hangs on a call ahead of it: asked in any order, and all at once, a script tells the same.
func TestScriptsInAnyOrder(t *testing.T) {
	var scripts []string
	var want []impl.ScriptOut
	for seed := range uint64(40) {
		w := writer{rand.New(rand.NewPCG(seed, 13))}
		text := scriptOf(w.lines())
		if seed%4 == 0 {
			text = spoiled(w.Rand, text)
		}
		scripts = append(scripts, text)
		want = append(want, impl.ScriptRun(text))
	}
	for i, a := range scripts {
		for k, b := range scripts {
			if gotA, gotB := impl.ScriptRun(a), impl.ScriptRun(b); gotA != want[i] || gotB != want[k] {
				t.Fatalf("%q and then %q: got %+v and %+v, want %+v and %+v", a, b, gotA, gotB, want[i], want[k])
			}
		}
	}
	together := make(chan bool)
	for i, text := range scripts {
		go func() { together <- impl.ScriptRun(text) == want[i] && impl.ScriptFault(text).Code == want[i].Code }()
	}
	for range scripts {
		if !<-together {
			t.Errorf("asked together, one tells another answer")
		}
	}
}
