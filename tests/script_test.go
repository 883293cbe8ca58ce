package tests

import (
	"math/rand"
	"regexp"
	"slices"
	"strconv"
	"strings"
	"testing"

	"loop.example/g00082/impl"
)

// linesOf is the text of these lines, each ended.
func linesOf(lines ...string) string {
	var text strings.Builder
	for _, line := range lines {
		text.WriteString(line + "\n")
	}
	return text.String()
}

func expectSaid(t *testing.T, what string, text string, want string) {
	t.Helper()
	for range 2 {
		if got := impl.RunScript(text); got != want {
			t.Errorf("%s: %.400q: got %.400q, want %.400q", what, text, got, want)
		}
	}
}

// expectTalk runs a script of which each line stands with what it says behind a bar; a line without a bar says nothing.
func expectTalk(t *testing.T, what string, talk ...string) {
	t.Helper()
	var lines, answers []string
	for _, line := range talk {
		asked, answer, says := strings.Cut(line, "|")
		lines = append(lines, asked)
		if says {
			answers = append(answers, answer)
		}
	}
	expectSaid(t, what, linesOf(lines...), linesOf(answers...))
}

// talkOf has a line so many times, each time with the same answer.
func talkOf(many int, line string) []string {
	return slices.Repeat([]string{line}, many)
}

// numbered has lines with rising numbers in the place of each #, and one more in that of each &.
func numbered(from int, to int, line string) []string {
	var lines []string
	for n := from; n <= to; n++ {
		lines = append(lines, strings.NewReplacer("#", strconv.Itoa(n), "&", strconv.Itoa(n+1)).Replace(line))
	}
	return lines
}

// started is device 0 with a listed image, with which a nonce may be asked for.
var started = []string{"restart 0 4|up", "load 0 boot 1|ok"}

// noting is device 0 with an image that is not listed.
var noting = []string{"restart 0 4|up", "load 0 evil 1|ok"}

func expectAfter(t *testing.T, what string, ahead []string, talk ...string) {
	t.Helper()
	expectTalk(t, what, slices.Concat(ahead, talk)...)
}

// A cut of a script is never below 0, and its boots are few: restart never says no.
func TestScriptRestart(t *testing.T) {
	for _, d := range []string{"0", "1"} {
		expectTalk(t, "cuts", "restart "+d+" 0|cut", "restart "+d+" 1|cut", "restart "+d+" 2|cut", "restart "+d+" 3|cut", "facts|facts 4 0 0 0 0 0 0 0", "restart "+d+" 4|up", "restart "+d+" 5|up", "restart "+d+" 1000000|up", "restart "+d+" 3|cut", "load "+d+" boot 1|no", "facts|facts 8 0 0 0 0 0 0 0")
	}
	expectTalk(t, "one alone", "restart 1 4|up", "load 0 boot 1|no", "load 1 boot 1|ok", "restart 0 3|cut", "load 1 core 1|ok", "restart 1 0|cut", "load 1 app 1|no")
	expectAfter(t, "what is loaded is forgotten", noting, "note 0 1 a|ok", "restart 0 4|up", "note 0 1 a|no", "ask|nonce 0", "quote 0|quote", "show 0|verdict 8")
	expectTalk(t, "as often as there are lines", talkOf(60, "restart 0 4|up")...)
}

func TestScriptLoad(t *testing.T) {
	expectTalk(t, "not up", "load 0 boot 1|no", "load 1 evil 1|no", "restart 0 3|cut", "load 0 boot 1|no", "facts|facts 1 0 0 0 0 0 0 0")
	expectTalk(t, "listed and not", "restart 1 4|up", "load 1 boot 0|ok", "load 1 boot 9|ok", "load 1 core 10|ok", "load 1 a 1000000|ok", "load 1 abcdefghijkl 0|ok", "load 1 reset 1|ok", "load 1 n1 1|ok", "load 1 load 1|ok", "facts|facts 1 8 0 0 0 0 0 0")
	expectAfter(t, "as many as there may be", []string{"restart 0 4|up"}, slices.Concat(numbered(0, 15, "load 0 app #|ok"), []string{"load 0 boot 1|no", "load 0 evil 1|no", "facts|facts 1 16 0 0 0 0 0 0", "restart 0 4|up", "load 0 boot 1|ok"})...)
}

func TestScriptNote(t *testing.T) {
	expectTalk(t, "not up", "note 0 0 a|no", "note 1 8 a|no")
	expectTalk(t, "nothing loaded", "restart 0 4|up", "note 0 0 a|no", "facts|facts 1 0 0 0 0 0 0 0")
	expectAfter(t, "listed images alone", started, "note 0 0 a|no", "load 0 core 9|ok", "note 0 7 a|no", "load 0 app 10|ok", "note 0 7 a|ok", "facts|facts 1 3 1 0 0 0 0 0")
	expectAfter(t, "registers", noting, slices.Concat(numbered(0, 7, "note 0 # a|ok"), numbered(8, 12, "note 0 # a|no"), []string{"note 0 1000000 a|no", "note 1 1 a|no", "note 0 1 abcdefghijkl|ok", "facts|facts 1 1 9 0 0 0 0 0"})...)
	expectTalk(t, "not listed in one of its parts", "restart 0 4|up", "restart 1 4|up", "load 0 boot 10|ok", "note 0 1 a|ok", "load 1 core1 1|ok", "note 1 1 a|ok", "load 0 boot 1|ok", "note 0 1 b|ok")
	expectAfter(t, "as deep as a register may be", noting, append(talkOf(40, "note 0 3 a|ok"), "note 0 3 a|no", "note 0 4 a|ok")...)
}

func TestScriptAsk(t *testing.T) {
	full := numbered(0, 7, "ask|nonce #")
	expectTalk(t, "rising", full...)
	expectAfter(t, "busy", full, "ask|no", "tick 20|ok", "ask|no", "tick 1|ok", "ask|nonce 8", "facts|facts 0 0 0 9 0 0 0 0")
	expectAfter(t, "one is spent", slices.Concat(started, full), "ask|no", "quote 0|quote", "show 0|verdict 0", "ask|nonce 8", "ask|no", "accept 0|no")
	expectAfter(t, "no asking leaves the last nonce", slices.Concat(started, full), "ask|no", "quote 0|quote", "show 0|verdict 0", "accept 0|ok")
	var many []string
	for from := 0; from < 30; from += 8 {
		many = append(append(many, numbered(from, min(from+7, 29), "ask|nonce #")...), "tick 21|ok")
	}
	expectAfter(t, "as many as may be waited for", many, "ask|no", "facts|facts 0 0 0 30 0 0 0 0")
	expectAfter(t, "one is accepted", append(slices.Clone(started), many[:len(many)-1]...), "ask|no", "quote 0|quote", "show 0|verdict 0", "ask|no", "accept 0|ok", "ask|nonce 30", "ask|no")
}

func TestScriptQuote(t *testing.T) {
	expectAfter(t, "no nonce", started, "quote 0|no", "show 0|no", "facts|facts 1 1 0 0 0 0 0 0")
	expectTalk(t, "not up", "ask|nonce 0", "quote 0|no", "quote 1|no", "restart 1 3|cut", "quote 1|no", "restart 1 4|up", "quote 1|quote", "quote 0|no", "restart 1 3|cut", "quote 1|no", "facts|facts 3 0 0 1 1 0 0 0")
	expectAfter(t, "again", started, "ask|nonce 0", "quote 0|quote", "quote 0|quote", "load 0 core 1|ok", "quote 0|quote", "facts|facts 1 2 0 1 3 0 0 0")
	expectAfter(t, "one that is refused leaves what was shown", started, "ask|nonce 0", "quote 0|quote", "restart 0 3|cut", "quote 0|no", "show 0|verdict 0", "accept 0|ok")
	expectAfter(t, "what was quoted is shown, not what is", started, "ask|nonce 0", "quote 0|quote", "load 0 evil 1|ok", "show 0|verdict 0")
	expectAfter(t, "what was quoted last is shown", started, "ask|nonce 0", "quote 0|quote", "load 0 evil 1|ok", "quote 0|quote", "show 0|verdict 8")
	expectAfter(t, "as deep as a quote may be", noting, append(talkOf(36, "note 0 3 a|ok"), "ask|nonce 0", "quote 0|quote", "note 0 3 a|ok", "quote 0|no", "show 0|verdict 8")...)
	under := slices.Concat(started, []string{"ask|nonce 0"}, talkOf(39, "quote 0|quote"))
	expectAfter(t, "as many as may be under way", under, "quote 0|no", "ask|no", "facts|facts 1 1 0 1 39 0 0 0")
}

func TestScriptShow(t *testing.T) {
	ready := append(slices.Clone(started), "ask|nonce 0", "quote 0|quote")
	expectTalk(t, "nothing was shown", "show 0|no", "show 1|no", "ask|nonce 0", "show 0|no", "restart 0 4|up", "show 0|no", "quote 0|quote", "show 1|no", "facts|facts 1 0 0 1 1 0 0 0")
	expectAfter(t, "twice", ready, "show 0|verdict 0", "show 0|verdict 2", "show 0|verdict 2", "facts|facts 1 1 0 1 1 1 0 0")
	expectAfter(t, "just in time", ready, "tick 20|ok", "show 0|verdict 0")
	expectAfter(t, "too old", ready, "tick 21|ok", "show 0|verdict 2", "accept 0|no", "facts|facts 1 1 0 1 1 0 0 0")
	expectAfter(t, "an old nonce that is open still", ready, "ask|nonce 1", "show 0|verdict 0", "accept 0|no")
	expectAfter(t, "a reset between", ready, "restart 0 4|up", "show 0|verdict 0", "accept 0|ok")
	expectAfter(t, "another device with the same nonce", ready, "restart 1 4|up", "load 1 boot 1|ok", "quote 1|quote", "show 1|verdict 0", "show 0|verdict 2", "accept 0|no", "accept 1|ok")
	expectTalk(t, "nothing loaded", "restart 0 4|up", "ask|nonce 0", "quote 0|quote", "show 0|verdict 8", "accept 0|no")
	for _, c := range []struct{ images, verdict string }{{"boot 0", "0"}, {"core 9", "0"}, {"app 10", "0"}, {"boot 1000000", "0"}, {"boot 1,core 2,app 3", "0"}, {"app 1,app 1,app 1", "0"}, {"evil 1", "8"}, {"boot 1,evil 1", "8"}, {"evil 1,boot 1", "8"}, {"boot 1,core 2,app 3,boot 1", "8"}} {
		talk := []string{"restart 1 4|up"}
		for image := range strings.SplitSeq(c.images, ",") {
			talk = append(talk, "load 1 "+image+"|ok")
		}
		expectTalk(t, "images", append(talk, "ask|nonce 0", "quote 1|quote", "show 1|verdict "+c.verdict, "audit|fine")...)
	}
	expectAfter(t, "a note", noting, "note 0 3 a|ok", "ask|nonce 0", "quote 0|quote", "show 0|verdict 8")
	expectAfter(t, "no room for the token", slices.Concat(ready, talkOf(38, "quote 0|quote")), "show 0|no", "show 0|no", "accept 0|no", "lie 0 b|verdict 6", "show 0|verdict 2", "facts|facts 1 1 0 1 39 1 0 0")
	expectAfter(t, "room for the token", slices.Concat(ready, talkOf(37, "quote 0|quote")), "show 0|verdict 0", "accept 0|ok", "ask|no", "quote 0|no")
}

func TestScriptLie(t *testing.T) {
	ready := append(slices.Clone(started), "ask|nonce 0", "quote 0|quote")
	expectTalk(t, "nothing was shown", "lie 0 b|no", "lie 1 b|no", "restart 1 4|up", "load 1 boot 1|ok", "ask|nonce 0", "lie 1 b|no", "quote 1|quote", "lie 0 b|no", "facts|facts 1 1 0 1 1 0 0 0")
	expectTalk(t, "an empty log", "restart 0 4|up", "ask|nonce 0", "quote 0|quote", "lie 0 b|no", "show 0|verdict 8", "lie 0 b|no")
	expectAfter(t, "a log that is not the one of the registers", ready, "lie 0 b|verdict 6", "lie 0 b|verdict 2", "show 0|verdict 2", "accept 0|no", "facts|facts 1 1 0 1 1 1 0 0", "audit|fine")
	expectAfter(t, "after the truth", ready, "show 0|verdict 0", "lie 0 b|verdict 2", "accept 0|ok")
	expectAfter(t, "too old", ready, "tick 21|ok", "lie 0 boot|verdict 2")
	expectAfter(t, "of the last one alone", started, "load 0 core 1|ok", "ask|nonce 0", "quote 0|quote", "lie 0 core|verdict 6")
	expectAfter(t, "what is so is no lie", noting, "note 0 3 a|ok", "ask|nonce 0", "quote 0|quote", "lie 0 a|verdict 8", "ask|nonce 1", "quote 0|quote", "lie 0 b|verdict 6")
	wanted := append(slices.Clone(noting), "note 0 3 a|ok", "least 0 evil 1|policy 1", "ask|nonce 0", "quote 0|quote")
	expectAfter(t, "what is so is trusted", wanted, "lie 0 a|verdict 0", "accept 0|ok", "audit|fine")
	expectAfter(t, "what is not so is not", wanted, "lie 0 ab|verdict 6", "accept 0|no", "audit|fine")
	expectAfter(t, "a load behind a note", wanted[:3], "load 0 boot 1|ok", "ask|nonce 0", "quote 0|quote", "lie 0 a|verdict 6")
}

// All ticks of a script together are below MaxNumber: tick never says no.
func TestScriptTick(t *testing.T) {
	expectTalk(t, "ticks", "tick 0|ok", "tick 1|ok", "tick 20|ok", "tick 1000000|ok", "facts|facts 0 0 0 0 0 0 0 0", "ask|nonce 0")
	expectTalk(t, "as many as there may be", talkOf(60, "tick 1000000|ok")...)
	expectAfter(t, "in two pieces", started, "ask|nonce 0", "quote 0|quote", "tick 10|ok", "tick 10|ok", "tick 0|ok", "show 0|verdict 0")
	expectAfter(t, "in three pieces", started, "ask|nonce 0", "quote 0|quote", "tick 10|ok", "tick 10|ok", "tick 1|ok", "show 0|verdict 2")
	expectAfter(t, "ahead", []string{"tick 500|ok"}, append(slices.Clone(started), "ask|nonce 0", "tick 20|ok", "quote 0|quote", "show 0|verdict 0", "tick 1000|ok", "accept 0|ok")...)
}

func TestScriptAccept(t *testing.T) {
	ready := append(slices.Clone(started), "ask|nonce 0", "quote 0|quote", "show 0|verdict 0")
	expectTalk(t, "nothing", "accept 0|no", "accept 1|no", "ask|nonce 0", "accept 0|no", "facts|facts 0 0 0 1 0 0 0 0")
	expectAfter(t, "ahead of the verdict", ready[:4], "accept 0|no", "show 0|verdict 0", "accept 0|ok")
	expectAfter(t, "twice", ready, "accept 0|ok", "accept 0|no", "accept 0|no", "facts|facts 1 1 0 1 1 1 0 1", "audit|fine")
	expectAfter(t, "another device", ready, "accept 1|no", "restart 1 4|up", "quote 1|quote", "accept 1|no", "accept 0|ok")
	expectAfter(t, "another nonce since", ready, "ask|nonce 1", "accept 0|no", "quote 0|quote", "accept 0|no", "show 0|verdict 0", "accept 0|ok", "accept 0|no")
	expectAfter(t, "other boots since", ready, "restart 0 4|up", "accept 0|ok")
	expectAfter(t, "other boots are shown since", ready, "restart 0 4|up", "quote 0|quote", "accept 0|no", "show 0|verdict 2", "accept 0|no")
	expectAfter(t, "the same boots are shown since", ready, "load 0 evil 1|ok", "quote 0|quote", "accept 0|ok")
	expectAfter(t, "a verdict that is not good", noting, "ask|nonce 0", "quote 0|quote", "show 0|verdict 8", "accept 0|no")
	expectAfter(t, "the policy since", ready, "least 0 boot 5|policy 1", "withdraw 0 boot 1|policy 2", "accept 0|ok")
	expectAfter(t, "many boots", []string{"restart 0 4|up", "restart 0 4|up", "restart 0 2|cut"}, append(slices.Clone(ready), "accept 0|ok", "facts|facts 4 1 0 1 1 1 0 1")...)
}

func TestScriptLeast(t *testing.T) {
	expectTalk(t, "layers", slices.Concat(numbered(0, 15, "least # a 1|policy &"), []string{"least 16 a 1|no", "least 17 boot 0|no", "least 1000000 a 1|no", "facts|facts 0 0 0 0 0 0 0 0"})...)
	expectAfter(t, "is wanted", started, "ask|nonce 0", "quote 0|quote", "least 0 boot 2|policy 1", "show 0|verdict 8", "load 0 boot 2|ok")
	for _, c := range []struct{ least, verdict string }{{"0 boot 1", "0"}, {"0 boot 0", "0"}, {"0 boot 2", "8"}, {"0 boot 1000000", "8"}, {"1 boot 2", "0"}, {"0 core 2", "0"}, {"3 boot 2", "0"}, {"0 evil 9", "0"}} {
		expectAfter(t, "another least", started, "least "+c.least+"|policy 1", "ask|nonce 0", "quote 0|quote", "show 0|verdict "+c.verdict)
		expectAfter(t, "and taken back", started, "least 0 boot 7|policy 1", "ask|nonce 0", "quote 0|quote", "least 0 boot 1|policy 2", "least "+c.least+"|policy 3", "show 0|verdict "+c.verdict)
	}
	expectAfter(t, "a new row", noting, "least 0 evil 2|policy 1", "ask|nonce 0", "quote 0|quote", "show 0|verdict 8", "least 0 evil 1|policy 2", "ask|nonce 1", "quote 0|quote", "show 0|verdict 0", "audit|fine")
	rows := numbered(1, 51, "least 5 a# 0|policy #")
	expectAfter(t, "as many rows as there may be", rows, "least 5 a 0|no", "least 5 a52 0|no", "least 5 a51 3|policy 52", "least 0 app 3|policy 53", "least 6 a1 0|no", "withdraw 5 a1 0|policy 54")
	expectAfter(t, "a layer of its own", []string{"least 3 boot 1|policy 1"}, append(slices.Clone(started), "load 0 core 1|ok", "load 0 app 1|ok", "load 0 boot 1|ok", "ask|nonce 0", "quote 0|quote", "show 0|verdict 0", "accept 0|ok")...)
}

func TestScriptWithdraw(t *testing.T) {
	expectTalk(t, "layers", slices.Concat(numbered(0, 15, "withdraw # a 1|policy &"), []string{"withdraw 16 a 1|no", "withdraw 1000000 a 1|no", "withdraw 15 a 1|policy 17", "facts|facts 0 0 0 0 0 0 0 0"})...)
	for _, c := range []struct{ image, verdict string }{{"0 boot 1", "8"}, {"0 boot 2", "0"}, {"0 boot 0", "0"}, {"1 boot 1", "0"}, {"0 core 1", "0"}, {"0 boot 10", "0"}} {
		expectAfter(t, "an image", started, "withdraw "+c.image+"|policy 1", "ask|nonce 0", "quote 0|quote", "show 0|verdict "+c.verdict)
		expectAfter(t, "between", started, "ask|nonce 0", "quote 0|quote", "withdraw "+c.image+"|policy 1", "withdraw "+c.image+"|policy 2", "least 0 boot 0|policy 3", "show 0|verdict "+c.verdict)
	}
	expectTalk(t, "as many as there may be", numbered(1, 60, "withdraw 0 boot #|policy #")...)
	expectTalk(t, "the greatest version", "withdraw 15 abcdefghijkl 1000000|policy 1", "withdraw 0 boot 1000001|what")
}

// By promise 20 audit never says wrong.
func TestScriptAuditAndFacts(t *testing.T) {
	expectTalk(t, "nothing", "audit|fine", "facts|facts 0 0 0 0 0 0 0 0", "audit|fine")
	talk := []string{
		"restart 0 3|cut", "restart 0 4|up", "load 0 boot 1|ok", "load 0 evil 1|ok", "note 0 3 a|ok", "ask|nonce 0", "quote 0|quote", "show 0|verdict 8",
		"restart 0 9|up", "load 0 app 9|ok", "ask|nonce 1", "quote 0|quote", "show 0|verdict 0", "accept 0|ok", "tick 3|ok", "least 0 app 9|policy 1", "show 0|verdict 2", "accept 0|no", "what|what", "",
	}
	counts := []string{
		"1 0 0 0 0 0 0 0", "2 0 0 0 0 0 0 0", "2 1 0 0 0 0 0 0", "2 2 0 0 0 0 0 0", "2 2 1 0 0 0 0 0", "2 2 1 1 0 0 0 0", "2 2 1 1 1 0 0 0", "2 2 1 1 1 1 0 0",
		"3 2 1 1 1 1 0 0", "3 3 1 1 1 1 0 0", "3 3 1 2 1 1 0 0", "3 3 1 2 2 1 0 0", "3 3 1 2 2 2 0 0", "3 3 1 2 2 2 0 1", "3 3 1 2 2 2 0 1", "3 3 1 2 2 2 0 1", "3 3 1 2 2 2 0 1", "3 3 1 2 2 2 0 1", "3 3 1 2 2 2 0 1", "3 3 1 2 2 2 0 1",
	}
	var all []string
	for at, line := range talk {
		expectAfter(t, "at each place", talk[:at+1], "facts|facts "+counts[at], "audit|fine", "facts|facts "+counts[at])
		all = append(all, line, "facts|facts "+counts[at], "audit|fine")
	}
	expectTalk(t, "at all places", all...)
}

// rightLines have each form of the table, with the letters that the table has.
var rightLines = []string{"restart D N", "load D NAME N", "note D K NAME", "ask", "quote D", "show D", "lie D NAME", "tick N", "accept D", "least K NAME N", "withdraw K NAME N", "audit", "facts"}

var wrongDecimals = []string{"00", "01", "0000001", "-1", "-0", "+1", "+0", "1000001", "1000010", "10000000", "99999999999999999999", "9223372036854775808", "1e3", "0x1", "1_0", "1.", "1.0", "a", "n1", "!", "٣", "１", "1\t", "\t1", "1\x00", "boot"}

var wrongDevicePlaces = []string{"2", "9", "10", "00", "01", "-1", "-0", "+0", "+1", "0x0", "1000000", "1000001", "d0", "n0", "a", "0\t", "٠", "0.0"}

var wrongScriptNames = []string{"A", "Boot", "bOot", "9a", "1", "abcdefghijklm", "!k", "!", "(hash", "()", "a-b", "a_b", "a.", "é", "aé", "a\t", "\ta", "a\r", "a\x00", "a\xff", "a\u00a0b"}

func wordFor(letter string, n int) string {
	switch letter {
	case "D":
		return []string{"0", "1"}[n%2]
	case "K", "N":
		return []string{"0", "1", "7", "15", "999999", "1000000"}[n%6]
	case "NAME":
		return []string{"boot", "a", "abcdefghijkl", "a123", "n0", "restart"}[n%6]
	}
	return letter
}

func wrongWords(letter string) []string {
	switch letter {
	case "D":
		return wrongDevicePlaces
	case "K", "N":
		return wrongDecimals
	}
	return wrongScriptNames
}

func TestScriptLinesThatAreNone(t *testing.T) {
	for n, form := range rightLines {
		letters := strings.Fields(form)
		var words []string
		for _, letter := range letters {
			words = append(words, wordFor(letter, n))
		}
		if got := impl.RunScript(strings.Join(words, " ") + "\n"); got == "what\n" || !strings.HasSuffix(got, "\n") {
			t.Errorf("a right line %q: got %q", words, got)
		}
		for at := 1; at < len(words); at++ {
			for _, list := range [][]string{words[:at], slices.Delete(slices.Clone(words), at, at+1), slices.Insert(slices.Clone(words), at, words[at]), append(slices.Clone(words), words[at])} {
				expectTalk(t, "words too few or many", strings.Join(list, " ")+"|what", "ask|nonce 0")
			}
			for _, word := range wrongWords(letters[at]) {
				wrong := slices.Clone(words)
				wrong[at] = word
				expectTalk(t, "a word that is wrong", "ask|nonce 0", strings.Join(wrong, " ")+"|what", "ask|nonce 1", "facts|facts 0 0 0 2 0 0 0 0")
			}
		}
		for _, more := range []string{"0", "1", "a", "boot", "ask", "\t", "\r", "\x00", "-", "."} {
			expectTalk(t, "one word more", strings.Join(words, " ")+" "+more+"|what")
		}
		for _, first := range []string{strings.ToUpper(words[0]), strings.ToUpper(words[0][:1]) + words[0][1:], words[0] + "s", words[0][1:], words[0][:len(words[0])-1], words[0] + "\t", "\t" + words[0], words[0] + "\r", "\x00" + words[0], words[0] + ",", "!" + words[0], words[0] + ":"} {
			wrong := slices.Clone(words)
			wrong[0] = first
			expectTalk(t, "a word that is none", strings.Join(wrong, " ")+"|what")
		}
	}
	for _, line := range []string{"what", "no", "0", "a", "steal 0", "pass 1", "policy", "D", "ask ask", "nonce 0", "restart", "load", "-", "#", "// ask", "ask;", "\"ask\"", "\xff", "\xff\xfe ask", "é"} {
		expectTalk(t, "none", line+"|what", "audit|fine")
	}
}

// What is refused does nothing, and so does what is no line.
func TestScriptWhatIsSaidNoToDoesNothing(t *testing.T) {
	ready := append(slices.Clone(started), "ask|nonce 0", "quote 0|quote")
	for _, line := range []string{"load 1 boot 1|no", "note 0 1 a|no", "note 0 8 a|no", "quote 1|no", "show 1|no", "lie 1 a|no", "accept 0|no", "accept 1|no", "least 16 a 1|no", "withdraw 16 a 1|no", "show 2|what", "lie 0|what", "tick 01|what", "tick 1000001|what", "", "   "} {
		expectAfter(t, "refused", ready, line, line, "show 0|verdict 0", "accept 0|ok", "least 0 a 1|policy 1", "ask|nonce 1", "facts|facts 1 1 0 2 1 1 0 1")
	}
}

func TestScriptBlanks(t *testing.T) {
	expectTalk(t, "blanks", " restart 0 4|up", "load 0 boot 1 |ok", "  load   0    core  1   |ok", " ask |nonce 0", "quote     1|no", "   quote 0|quote", "show 0          |verdict 0", "  audit  |fine", " facts |facts 1 2 0 1 1 1 0 0")
	for _, blank := range []string{"\t", "\r", "\v", "\f", "\x00", "\u00a0", "\u2003", "\u3000", "\x85", ",", "\x1f", "!"} {
		expectTalk(t, "no blanks", "restart"+blank+"0 4|what", "restart 0"+blank+"4|what", blank+"ask|what", "ask"+blank+"|what", blank+"|what", " "+blank+" |what", "ask "+blank+"|what", "load 0 boot"+blank+"1|what", "ask|nonce 0")
	}
	expectTalk(t, "lines without words", "", " ", "   ", "ask|nonce 0", "", strings.Repeat(" ", 500), "ask|nonce 1", "")
	expectTalk(t, "nothing but lines without words", "", "", "  ")
	expectSaid(t, "carriage returns", "ask\r\nask\r\n", "what\nwhat\n")
}

func TestScriptLimits(t *testing.T) {
	const tooLong = "too long\n"
	expectSaid(t, "nothing", "", "")
	for _, many := range []int{1, 2, 59, 60} {
		expectSaid(t, "lines", strings.Repeat("tick 1\n", many), strings.Repeat("ok\n", many))
		expectSaid(t, "lines without words", strings.Repeat("\n", many), "")
		expectSaid(t, "lines without words, and one", strings.Repeat("  \n", many-1)+"ask\n", "nonce 0\n")
		expectSaid(t, "lines that are none", strings.Repeat("x\n", many), strings.Repeat("what\n", many))
	}
	for _, many := range []int{61, 62, 100, 6000, 6001, 100000} {
		expectSaid(t, "too many lines", strings.Repeat("\n", many), tooLong)
		expectSaid(t, "too many lines", strings.Repeat("a\n", many), tooLong)
		expectSaid(t, "too many lines, of which one has words", strings.Repeat("\n", many-1)+"ask\n", tooLong)
	}
	for _, text := range []string{"ask", " ", "a", "ask\nask", "ask\n ", "\n\nask", "ask\nask\n\r", "what", "\x00", strings.Repeat("ask\n", 59) + "ask", strings.Repeat("ask\n", 60) + "ask", strings.Repeat("ask\n", 60) + " "} {
		expectSaid(t, "not ended", text, tooLong)
	}
	for _, size := range []int{5999, 6000, 6001, 6002, 12000, 1000000} {
		blank := strings.Repeat(" ", size-len("ask\n"))
		for _, text := range []string{"ask" + blank + "\n", blank + "ask\n"} {
			want := "nonce 0\n"
			if size > 6000 {
				want = tooLong
			}
			expectSaid(t, "bytes", text, want)
			expectSaid(t, "bytes, not ended", text[:len(text)-1]+"x", tooLong)
		}
		letters, two := strings.Repeat("x", size-1)+"\n", strings.Repeat("é", (size-1)/2)+strings.Repeat("x", (size-1)%2)+"\n"
		want := "what\n"
		if size > 6000 {
			want = tooLong
		}
		expectSaid(t, "one word", letters, want)
		expectSaid(t, "bytes, not letters", two, want)
	}
	full := strings.Repeat(strings.Repeat(" ", 96)+"ask\n", 60)
	expectSaid(t, "all of it", full, linesOf(numbered(0, 7, "nonce #")...)+strings.Repeat("no\n", 52))
	expectSaid(t, "all of it and one blank", " "+full, tooLong)
	if impl.MaxScript != 60 || impl.MaxText != 6000 {
		t.Error("limits")
	}
}

// All that leads two devices from a reset to their verdicts.
func TestScriptFromResetToVerdict(t *testing.T) {
	expectTalk(t, "both devices", "restart 0 4|up", "restart 1 4|up", "load 0 boot 3|ok", "load 0 core 4|ok", "load 1 boot 3|ok", "load 1 evil 4|ok", "note 1 7 a|ok", "ask|nonce 0", "quote 0|quote", "quote 1|quote", "show 1|verdict 8", "show 0|verdict 2",
		"ask|nonce 1", "quote 0|quote", "show 0|verdict 0", "accept 1|no", "accept 0|ok", "least 1 core 5|policy 1", "ask|nonce 2", "quote 0|quote", "show 0|verdict 8", "accept 0|no", "audit|fine", "facts|facts 2 4 1 3 4 3 0 1")
}

// A scriptModel says what the document's table tells, by the calls of the chapters ahead.
type scriptModel struct {
	world impl.World
	nonce string
	shown [2]impl.Evidence
	logs  [2][]impl.Event
	has   [2]bool
}

func newScriptModel(t *testing.T) *scriptModel {
	var listed []impl.Image
	var policy impl.Policy
	for version := range int64(10) {
		for _, name := range []string{"app", "boot", "core"} {
			listed = append(listed, impl.Image{Name: name, Version: version})
		}
	}
	for _, name := range []string{"0boot", "0core", "0app", "1boot", "1core", "1app", "2boot", "2core", "2app"} {
		policy.Rows = append(policy.Rows, impl.Ref{Layer: int64(name[0] - '0'), Name: name[1:]})
	}
	return &scriptModel{world: newWorldOf(t, []string{"!k0", "!k1"}, listed, policy)}
}

// scriptPatterns has what each form of rightLines looks like, its parts as groups.
var scriptPatterns = func() map[string]*regexp.Regexp {
	number := "(0|[1-9][0-9]{0,5}|1000000)"
	looks := strings.NewReplacer("NAME", "([a-z][a-z0-9]{0,11})", "D", "([01])", "K", number, "N", number, " ", " +")
	patterns := map[string]*regexp.Regexp{}
	for _, form := range rightLines {
		patterns[strings.Fields(form)[0]] = regexp.MustCompile(`^ *` + looks.Replace(form) + ` *$`)
	}
	return patterns
}()

func (m *scriptModel) act(a impl.Action, answer string) string {
	next, told, code := impl.Act(m.world, a)
	if code != impl.WoOk {
		return "no"
	}
	m.world = next
	return strings.ReplaceAll(answer, "*", told)
}

func (m *scriptModel) demand(p impl.Policy, ok bool) string {
	if !ok {
		return "no"
	}
	m.world.Verifier.Policy = p
	return "policy " + strconv.FormatInt(p.Number, 10)
}

// show is of the device d, with another Measure at the end of its log where there is one.
func (m *scriptModel) show(d int64, measure string) string {
	e, log := m.shown[d], slices.Clone(m.logs[d])
	if !m.has[d] || measure != "" && len(log) == 0 {
		return "no"
	}
	if measure != "" {
		log[len(log)-1].Measure = measure
		e.Log = logBytes(log)
	}
	return m.act(showing(e), "verdict *")
}

func (m *scriptModel) quote(d int64) string {
	if m.nonce == "" {
		return "no"
	}
	said := m.act(impl.Action{Kind: impl.AcQuote, At: d, Number: 255, Text: m.nonce}, "quote")
	if said == "quote" {
		m.shown[d], m.has[d] = impl.EvidenceOf(m.world.Devices[d], m.nonce, 255, endorsed(m.world.Devices[d]))
		m.logs[d] = m.world.Devices[d].Log
	}
	return said
}

func (m *scriptModel) accept(d int64) string {
	if m.nonce == "" || !m.has[d] {
		return "no"
	}
	name, boots := "d"+strconv.FormatInt(d, 10), m.shown[d].Boots
	return m.act(accepting(tokenText("!v", m.nonce, name, boots), m.nonce, name, boots), "ok")
}

func (m *scriptModel) say(line string) string {
	first := strings.Trim(line, " ")
	if at := strings.IndexByte(first, ' '); at >= 0 {
		first = first[:at]
	}
	pattern, ok := scriptPatterns[first]
	if !ok || !pattern.MatchString(line) {
		return "what"
	}
	words := append(pattern.FindStringSubmatch(line), "", "", "")
	n := func(at int) int64 {
		number, _ := strconv.ParseInt(words[at], 10, 64)
		return number
	}
	switch first {
	case "restart":
		return m.act(impl.Action{Kind: impl.AcRestart, At: n(1), Number: n(2)}, "*")
	case "load":
		return m.act(impl.Action{Kind: impl.AcLoad, At: n(1), Image: impl.Image{Name: words[2], Version: n(3)}}, "ok")
	case "note":
		return m.act(impl.Action{Kind: impl.AcNote, At: n(1), Number: n(2), Text: words[3]}, "ok")
	case "ask":
		said := m.act(impl.Action{Kind: impl.AcAsk}, "*")
		if said == "no" {
			return said
		}
		m.nonce = said
		return "nonce " + strings.TrimSuffix(strings.TrimPrefix(said, "(hash !v n"), ")")
	case "quote":
		return m.quote(n(1))
	case "show", "lie":
		return m.show(n(1), words[2])
	case "tick":
		return m.act(impl.Action{Kind: impl.AcTick, Number: n(1)}, "ok")
	case "accept":
		return m.accept(n(1))
	case "least":
		return m.demand(impl.Demand(m.world.Verifier.Policy, n(1), words[2], n(3)))
	case "withdraw":
		if n(1) > impl.MaxLayer {
			return "no"
		}
		return m.demand(impl.Withdraw(m.world.Verifier.Policy, measured(n(1), impl.Image{Name: words[2], Version: n(3)})))
	case "audit":
		if auditsOf(m.world.Facts, m.world.Listed) != [5]int64{-1, -1, -1, -1, -1} {
			return "wrong"
		}
		return "fine"
	}
	told := "facts"
	for kind := int64(1); kind <= 8; kind++ {
		of := slices.DeleteFunc(slices.Clone(m.world.Facts), func(f impl.Fact) bool { return f.Kind != kind })
		told += " " + strconv.Itoa(len(of))
	}
	return told
}

// someLine is mostly one that leads a device on from a reset to a verdict.
func someLine(r *rand.Rand) string {
	d := strconv.Itoa(r.Intn(2))
	name := pick(r, "boot", "core", "app", "boot", "core", "evil")
	small := strconv.Itoa(r.Intn(5))
	line := pick(r, "restart "+d+" "+pick(r, "3", "4", "9", "100"), "load "+d+" "+name+" "+small, "load "+d+" "+name+" "+small, "note "+d+" "+strconv.Itoa(r.Intn(9))+" "+pick(r, "a", "b"), "note "+d+" 3 a", "ask", "quote "+d, "quote "+d, "show "+d, "show "+d, "accept "+d, "accept "+d, "lie "+d+" "+pick(r, "a", "b"), "tick "+pick(r, "0", "1", "5", "21"), "least "+small+" "+name+" "+strconv.Itoa(r.Intn(3)), "withdraw "+strconv.Itoa(r.Intn(18))+" "+name+" "+small, "audit", "facts")
	switch r.Intn(14) {
	case 0:
		line = strings.ReplaceAll(" "+line, " ", strings.Repeat(" ", 1+r.Intn(3)))
	case 1:
		at := r.Intn(len(line))
		line = line[:at] + pick(r, "", " ", "0", "x", "\t", "-") + line[at+1:]
	case 2:
		line = pick(r, "", " ", line+" "+small, "  ", line+" ", line+"\r")
	}
	return line
}

// someLines are what leads to a token, a lie, or many askings, now and then.
func someLines(r *rand.Rand) []string {
	d := strconv.Itoa(r.Intn(2))
	switch r.Intn(12) {
	case 0, 1, 2:
		return []string{"ask", "quote " + d, "show " + d, "accept " + d}
	case 3:
		return []string{"ask", "quote " + d, "lie " + d + " a"}
	case 4:
		return slices.Repeat([]string{"ask"}, r.Intn(10))
	}
	return []string{someLine(r)}
}

// scriptLines begin as one that may lead to a verdict, as a rule.
func scriptLines(r *rand.Rand) []string {
	var lines []string
	if r.Intn(6) > 0 {
		lines = []string{"restart 0 4", "load 0 " + pick(r, "boot", "core", "evil") + " 1", "restart 1 4", "load 1 " + pick(r, "app", "evil") + " 2"}
	}
	for range r.Intn(impl.MaxScript) {
		lines = append(lines, someLines(r)...)
	}
	return lines[:min(len(lines), impl.MaxScript)]
}

// Promise 20: what a script said stays said when more lines stand behind it; an audit at its end never finds anything wrong.
func TestScriptsWithMoreLinesBehind(t *testing.T) {
	r := rand.New(rand.NewSource(103))
	said := map[string]int{}
	for range 120 {
		lines := scriptLines(r)
		m := newScriptModel(t)
		want := ""
		for at, line := range lines {
			if strings.Trim(line, " ") != "" {
				answer := m.say(line)
				want += answer + "\n"
				said[strings.Fields(line)[0]+" "+strings.Fields(answer)[0]]++
				if strings.HasPrefix(answer, "verdict") {
					said[answer]++
				}
			}
			if at%7 == 0 || at == len(lines)-1 {
				expectSaid(t, "as far as this", linesOf(lines[:at+1]...), want)
			}
		}
		if len(lines) < impl.MaxScript {
			expectSaid(t, "an audit at its end", linesOf(append(lines, "audit")...), want+"fine\n")
		}
	}
	for _, often := range []string{"restart up", "restart cut", "load ok", "load no", "note ok", "note no", "ask nonce", "ask no", "quote quote", "quote no", "show verdict", "show no", "lie verdict", "lie no", "tick ok", "accept ok", "accept no", "least policy", "withdraw policy", "withdraw no", "audit fine", "facts facts", "load what", "verdict 0", "verdict 2", "verdict 6", "verdict 8"} {
		if said[often] < 5 {
			t.Error("too seldom", often, said[often])
		}
	}
}

// A text of any bytes is answered, with a line for each that has words, or as too long.
func TestScriptsOfAnyBytes(t *testing.T) {
	r := rand.New(rand.NewSource(104))
	for range 800 {
		text := linesOf(scriptLines(r)...)
		if r.Intn(2) == 0 {
			text = text[r.Intn(len(text)+1):]
		}
		bytes := []byte(text)
		for range r.Intn(4) {
			if len(bytes) > 0 {
				bytes[r.Intn(len(bytes))] = pick(r, "\n", " ", "\x00", "\xff", "a", "0")[0]
			}
		}
		text = string(bytes)
		many := 0
		for line := range strings.SplitSeq(text, "\n") {
			if strings.Trim(line, " ") != "" {
				many++
			}
		}
		got := impl.RunScript(text)
		tooLong := strings.Count(text, "\n") > impl.MaxScript || text != "" && text[len(text)-1] != '\n'
		if tooLong && got != "too long\n" || !tooLong && strings.Count(got, "\n") != many {
			t.Errorf("%q: got %q", text, got)
		}
	}
}
