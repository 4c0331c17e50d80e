package tests

import (
	"fmt"
	"regexp"
	"strconv"
	"strings"
	"testing"

	"loop.example/g00839/impl"
)

// lineTable is the document's table: what each word has behind it, a w for a word and an n for a number.
func lineTable() map[string]string {
	return map[string]string{
		"draws": "w", "init": "wnn", "give": "n", "old": "n", "part": "n", "put": "ww", "get": "w", "del": "w", "rekey": "nn",
		"seal": "", "list": "", "turn": "", "quit": "", "reboot": "",
	}
}

var lineNumber = regexp.MustCompile("^(0|[1-9][0-9]{0,8})$")

// slowLine asks whether a text is a line, without its line feed.
func slowLine(text string) bool {
	words := strings.Split(text, " ")
	needs, there := lineTable()[words[0]]
	if !there || len(words) != 1+len(needs) {
		return false
	}
	for i, w := range words[1:] {
		if w == "" || needs[i] == 'n' && !lineNumber.MatchString(w) {
			return false
		}
	}
	return true
}

// slowFault tells the first line that is none, lacks its line feed, or is the 41st.
func slowFault(text string) impl.ScriptOut {
	if len(text) > 8000 {
		return impl.ScriptOut{Code: impl.ErrSize}
	}
	for line := int64(0); text != ""; line++ {
		ahead, behind, ended := strings.Cut(text, "\n")
		if !ended || line == 40 || !slowLine(ahead) {
			return impl.ScriptOut{Line: line, Code: impl.ErrSyntax}
		}
		text = behind
	}
	return impl.ScriptOut{}
}

// slowPlay is what a script has come to: each line is asked of the slow reading of the vault.
type slowPlay struct {
	vault impl.Vault
	draws string
	hand  []impl.Env
	old   []impl.Env
}

func slowNumber(word string) int64 {
	n, err := strconv.ParseInt(word, 10, 64)
	if err != nil {
		panic(err)
	}
	return n
}

// given is an op that gives an envelope, or one that is not right, if there is none.
func (p *slowPlay) given(kind int64, from []impl.Env, x string) impl.Op {
	for _, e := range from {
		if e.X == slowNumber(x) {
			return impl.Op{Kind: kind, Text: slowEnvBytes(e), Nonce: p.vault.Nonce}
		}
	}
	return impl.Op{}
}

// op is what the document's table tells of the words of a line.
func (p *slowPlay) op(words []string) impl.Op {
	switch words[0] {
	case "init":
		return initOp(words[1], slowNumber(words[2]), slowNumber(words[3]), p.draws)
	case "give":
		return p.given(impl.OpGive, p.hand, words[1])
	case "old":
		return p.given(impl.OpGive, p.old, words[1])
	case "part":
		o := p.given(impl.OpPart, p.hand, words[1])
		o.Draws = p.draws
		return o
	case "put":
		return putOp(words[1], words[2])
	case "rekey":
		return rekeyOp(slowNumber(words[1]), slowNumber(words[2]))
	case "turn":
		return turnOp(p.draws)
	}
	kinds := map[string]int64{"get": impl.OpGet, "del": impl.OpDel, "seal": impl.OpSeal, "list": impl.OpList, "quit": impl.OpQuit, "reboot": impl.OpReboot}
	return named(kinds[words[0]], strings.Join(words[1:], ""))
}

// tell tells what is told of a line, without its line feed.
func (p *slowPlay) tell(line string) string {
	words := strings.Split(line, " ")
	if words[0] == "draws" {
		p.draws = words[1]
		return "ok"
	}
	o := p.op(words)
	if !slowOpRight(o) {
		return "error 6"
	}
	out := slowDo(p.vault, o)
	p.vault = out.Vault
	if out.Code != impl.OK {
		return fmt.Sprintf("error %d", out.Code)
	}
	if out.Envs != nil {
		p.hand, p.old = out.Envs, p.hand
		return fmt.Sprint(len(out.Envs))
	}
	return out.Text
}

// slowScript is a second reading of the document; it tells of each line what is told of it, too.
func slowScript(text string) (impl.ScriptOut, []string) {
	if out := slowFault(text); out.Code != impl.OK {
		return out, nil
	}
	var p slowPlay
	var told []string
	for line := range strings.Lines(text) {
		told = append(told, p.tell(strings.TrimSuffix(line, "\n")))
	}
	return impl.ScriptOut{Text: strings.Join(append(told, ""), "\n")}, told
}

// scriptName tells a script, but not all of a very long one.
func scriptName(text string) string {
	if len(text) > 3000 {
		return clip(text)
	}
	return fmt.Sprintf("%q", text)
}

// wantScript asks what a script tells, and that ScriptFault tells the same without Text.
func wantScript(t *testing.T, what string, text string, want impl.ScriptOut) {
	t.Helper()
	if got := impl.ScriptRun(text); got != want {
		t.Errorf("%s: ScriptRun(%s): got %+v, want %+v", what, scriptName(text), got, want)
	}
	want.Text = ""
	if got := impl.ScriptFault(text); got != want {
		t.Errorf("%s: ScriptFault(%s): got %+v, want %+v", what, scriptName(text), got, want)
	}
}

// wantNoScript asks for a script's first line that is none.
func wantNoScript(t *testing.T, what string, text string, line int) {
	t.Helper()
	wantScript(t, what, text, impl.ScriptOut{Line: int64(line), Code: impl.ErrSyntax})
}

// wantAsSlow asks for what the slow reading tells of a script.
func wantAsSlow(t *testing.T, what string, text string) []string {
	t.Helper()
	want, told := slowScript(text)
	wantScript(t, what, text, want)
	return told
}
