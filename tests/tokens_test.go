package tests

import (
	"fmt"
	"math"
	"math/rand"
	"slices"
	"strings"
	"testing"

	"loop.example/g00082/impl"
)

func sameRelying(a impl.Relying, b impl.Relying) bool {
	return slices.Equal(a.Issuers, b.Issuers) && slices.Equal(a.Asked, b.Asked) && slices.Equal(a.Taken, b.Taken)
}

func expectTokenBy(t *testing.T, what string, secret string, nonce string, name string, boots int64, there bool) {
	t.Helper()
	want := ""
	if there {
		want = tokenText(secret, nonce, name, boots)
	}
	if got, ok := impl.TokenBy(secret, nonce, name, boots); ok != there || got != want {
		t.Errorf("%s: got %.200q %v, want %.200q", what, got, ok, want)
	}
	if !there {
		return
	}
	if told, ok := impl.Told(want); !ok || told != impl.PartsOf(want)[1] {
		t.Errorf("%s: told %.200q %v", what, told, ok)
	}
}

func TestTokenBy(t *testing.T) {
	for _, secret := range []string{"!v", "!abcdefghijkl", "!token"} {
		for _, nonce := range []string{nonceText(0), "n", "token", "!s", "(pair a !b)", "(sign !v (hash token n dev n1))", nested(impl.MaxDeep-2, "a")} {
			for _, name := range []string{"dev", "a", "abcdefghijkl", "n1", "token"} {
				for _, boots := range []int64{0, 1, 12, impl.MaxNumber - 1, impl.MaxNumber} {
					expectTokenBy(t, "a token", secret, nonce, name, boots, true)
				}
			}
		}
	}
	for _, secret := range noSecrets {
		expectTokenBy(t, "no secret", secret, "n", "dev", 1, false)
	}
	for _, name := range append(slices.Clone(wrongNames), "(pair a b)", "dev n1", "(pub !k)") {
		expectTokenBy(t, "no name", "!v", "n", name, 1, false)
	}
	for _, nonce := range append(allNoTerms(), "n dev", "n) (hash n", nested(impl.MaxDeep-1, "a")) {
		expectTokenBy(t, "no nonce", "!v", nonce, "dev", 1, false)
	}
	for _, boots := range wrongNumbers {
		expectTokenBy(t, "no boots", "!v", "n", "dev", boots, false)
	}
	if got, ok := impl.TokenBy("!v", nonceText(3), "dev", 7); !ok || got != "(sign !v (hash token (hash !v n3) dev n7))" {
		t.Error(got, ok)
	}
}

func TestTokenByToTheLimits(t *testing.T) {
	room := impl.MaxTerm - len("(sign !v (hash token  dev n1))")
	expectTokenBy(t, "bytes", "!v", termOf(room), "dev", 1, true)
	// Here what is signed is a term yet, and the sign around it is none.
	for over := 1; over <= len("(sign !v )"); over++ {
		expectTokenBy(t, "bytes too many", "!v", termOf(room+over), "dev", 1, false)
	}
	expectTokenBy(t, "bytes too many", "!v", termOf(impl.MaxTerm), "dev", 1, false)
	expectTokenBy(t, "a byte of the secret", "!vv", termOf(room), "dev", 1, false)
	expectTokenBy(t, "a byte of the name", "!v", termOf(room), "devs", 1, false)
	expectTokenBy(t, "a byte of the number", "!v", termOf(room), "dev", 10, false)
}

// keyNames are so many public keys, rising, each with the secret that takenNames has at that place.
func keyNames(n int) []string {
	var keys []string
	for _, name := range takenNames(n) {
		keys = append(keys, "(pub !"+name+")")
	}
	return keys
}

func relyingOf(issuers []string, asked []string, taken []string) impl.Relying {
	return impl.Relying{Issuers: issuers, Asked: asked, Taken: taken}
}

// aRelying waits for b, d and f, has taken a, c and e, and trusts three issuers.
func aRelying() impl.Relying {
	return relyingOf([]string{"(pub !u)", "(pub !v)", "(pub !w)"}, []string{"b", "d", "f"}, []string{"a", "c", "e"})
}

// notRising are lists that are not, of any terms, in several ways.
func notRising() [][]string {
	lists := [][]string{{"a", "a"}, {"b", "a"}, {"a", "c", "b"}, {"a", "b", "b"}, {"ab", "a"}, {"b", "(hash a)"}, {"n10", "n2", "n1"}, {"n2", "n10"}, {"a", "b", "a"}}
	for _, noTerm := range allNoTerms() {
		sorted := []string{"(hash a)", "a", "c", noTerm}
		slices.Sort(sorted)
		lists = append(lists, []string{noTerm}, sorted)
	}
	return lists
}

// wrongRelyings are not right, in all the ways that the document has; each differs in one thing from a right one.
func wrongRelyings() []impl.Relying {
	right := aRelying()
	wrong := []impl.Relying{
		relyingOf(keyNames(9), right.Asked, right.Taken), relyingOf(keyNames(200), right.Asked, right.Taken),
		relyingOf(right.Issuers, names(impl.MaxAsked+1), right.Taken), relyingOf(right.Issuers, takenNames(impl.MaxTaken), right.Taken),
		relyingOf(right.Issuers, right.Asked, takenNames(impl.MaxTaken+1)), relyingOf(keyNames(9), names(impl.MaxAsked+1), takenNames(impl.MaxTaken+1)),
	}
	for _, list := range notRising() {
		wrong = append(wrong, relyingOf(list, right.Asked, right.Taken), relyingOf(right.Issuers, list, right.Taken), relyingOf(right.Issuers, right.Asked, list))
	}
	for _, key := range slices.Concat(wrongKeys, longKeys(), []string{"a", "!v", "z", "(hash a)"}) {
		sorted := append(keyNames(3), key)
		slices.Sort(sorted)
		wrong = append(wrong, relyingOf([]string{key}, right.Asked, right.Taken), relyingOf(sorted, right.Asked, right.Taken), relyingOf([]string{key}, nil, nil))
	}
	for _, keys := range [][]string{{"(pub !v)", "(pub !u)"}, {"(pub !v)", "(pub !v)"}, {"(pub !u)", "(pub !w)", "(pub !v)"}, {"(pub !vv)", "(pub !v)"}} {
		wrong = append(wrong, relyingOf(keys, right.Asked, right.Taken))
	}
	return wrong
}

func rightRelyings() []impl.Relying {
	right := aRelying()
	all := []impl.Relying{{}, {Issuers: []string{}, Asked: []string{}, Taken: []string{}}, right, relyingOf(nil, right.Asked, right.Taken), relyingOf(right.Issuers, nil, nil), relyingOf(right.Issuers, right.Asked, right.Asked)}
	for n := range 9 {
		all = append(all, relyingOf(keyNames(n), right.Asked, right.Taken))
	}
	for _, n := range []int{1, impl.MaxAsked - 1, impl.MaxAsked} {
		all = append(all, relyingOf(right.Issuers, names(n), right.Taken))
	}
	for _, n := range []int{1, impl.MaxAsked + 1, impl.MaxTaken - 1, impl.MaxTaken} {
		all = append(all, relyingOf(right.Issuers, right.Asked, takenNames(n)))
	}
	for _, list := range [][]string{{"!a", "(hash a)", "a"}, {"(hash a)"}, {"a", "ab", "b"}, {"n10", "n2"}, {nested(impl.MaxDeep, "a")}, {termOf(impl.MaxTerm)}, {"(pub !k)"}} {
		slices.Sort(list)
		all = append(all, relyingOf(right.Issuers, list, right.Taken), relyingOf(right.Issuers, right.Asked, list))
	}
	return append(all, relyingOf([]string{"(pub !v)", "(pub !vv)"}, nil, nil), relyingOf([]string{"(pub !abcdefghijkl)"}, nil, nil), relyingOf(keyNames(8), names(impl.MaxAsked), takenNames(impl.MaxTaken)))
}

// takenNames are so many names, rising, none of them one of names or of aRelying.
func takenNames(n int) []string {
	var all []string
	for i := range n {
		all = append(all, fmt.Sprintf("t%03d", i))
	}
	return all
}

func TestWhatRelyingsAreRight(t *testing.T) {
	for _, y := range rightRelyings() {
		if !impl.RelyingOk(y) {
			t.Errorf("it is right: %.300q", y)
		}
	}
	for _, y := range wrongRelyings() {
		if impl.RelyingOk(y) {
			t.Errorf("it is not right: %.300q", y)
		}
	}
	if !slices.Equal([]int64{impl.TkOk, impl.TkRelying, impl.TkForm, impl.TkAgain, impl.TkFull, impl.TkNonce, impl.TkSign}, []int64{0, 1, 2, 3, 4, 5, 6}) || impl.MaxAsked != 30 || impl.MaxTaken != 200 {
		t.Error("numbers of the codes")
	}
}

func expectAsked(t *testing.T, what string, y impl.Relying, nonce string, want impl.Relying, wantCode int64) {
	t.Helper()
	if got, code := impl.AskFor(y, nonce); !sameRelying(got, want) || code != wantCode {
		t.Errorf("%s: ask for %.60q: got %.600q %d, want %.600q %d", what, nonce, got, code, want, wantCode)
	}
}

// withAsked waits for one more.
func withAsked(y impl.Relying, nonce string) impl.Relying {
	y.Asked = append(slices.Clone(y.Asked), nonce)
	slices.Sort(y.Asked)
	return y
}

// withTaken waits for this one no more.
func withTaken(y impl.Relying, nonce string) impl.Relying {
	y.Asked = slices.DeleteFunc(slices.Clone(y.Asked), func(one string) bool { return one == nonce })
	y.Taken = append(slices.Clone(y.Taken), nonce)
	slices.Sort(y.Taken)
	return y
}

func TestAskFor(t *testing.T) {
	for _, nonce := range []string{"(hash a)", "!a", "aa", "bb", "c0", "dd", "ee", "f0", "z", "n1", nonceText(7), "(pub !v)", nested(impl.MaxDeep, "a"), termOf(impl.MaxTerm)} {
		for _, y := range []impl.Relying{{}, aRelying(), relyingOf(nil, []string{"b", "d", "f"}, nil), relyingOf(keyNames(8), names(impl.MaxAsked-1), takenNames(impl.MaxTaken))} {
			expectAsked(t, "one more", y, nonce, withAsked(y, nonce), impl.TkOk)
			next, _ := impl.AskFor(y, nonce)
			expectAsked(t, "and again", next, nonce, next, impl.TkAgain)
		}
	}
	y := relyingOf(nil, []string{"b", "d", "f"}, nil)
	for _, c := range []struct {
		nonce string
		want  []string
	}{{"a", []string{"a", "b", "d", "f"}}, {"c", []string{"b", "c", "d", "f"}}, {"e", []string{"b", "d", "e", "f"}}, {"g", []string{"b", "d", "f", "g"}}, {"dd", []string{"b", "d", "dd", "f"}}, {"(hash z)", []string{"(hash z)", "b", "d", "f"}}} {
		got, _ := impl.AskFor(y, c.nonce)
		expect(t, "at its place", got.Asked, c.want...)
	}
}

func TestAskForThatIsRefused(t *testing.T) {
	full := relyingOf(keyNames(2), names(impl.MaxAsked), takenNames(3))
	for _, y := range []impl.Relying{{}, aRelying(), full} {
		for _, nonce := range allNoTerms() {
			expectAsked(t, "no term", y, nonce, y, impl.TkForm)
		}
		for _, nonce := range slices.Concat(y.Asked, y.Taken) {
			expectAsked(t, "again", y, nonce, y, impl.TkAgain)
		}
	}
	for _, nonce := range []string{"(hash a)", "a", "a00a", "z"} {
		expectAsked(t, "full", full, nonce, full, impl.TkFull)
	}
	both := relyingOf(nil, names(impl.MaxAsked), names(impl.MaxAsked))
	for _, nonce := range both.Asked {
		expectAsked(t, "asked for and taken", both, nonce, both, impl.TkAgain)
	}
	for _, y := range wrongRelyings() {
		for _, nonce := range []string{"g", "", "b", "a", "(hash a)"} {
			expectAsked(t, "not right", y, nonce, impl.Relying{}, impl.TkRelying)
		}
	}
	y := impl.Relying{}
	for at, nonce := range names(impl.MaxAsked + 5) {
		next, code := impl.AskFor(y, nonce)
		if wantFull := at >= impl.MaxAsked; wantFull != (code == impl.TkFull) || !impl.RelyingOk(next) {
			t.Error("one after the other", at, code)
		}
		y = next
	}
}

func expectAccepted(t *testing.T, what string, y impl.Relying, token string, nonce string, want impl.Relying, wantCode int64) {
	t.Helper()
	if got, code := impl.Accept(y, token, nonce, "dev", 7); !sameRelying(got, want) || code != wantCode {
		t.Errorf("%s: accept %.200q for %.60q: got %.600q %d, want %.600q %d", what, token, nonce, got, code, want, wantCode)
	}
}

func TestAccept(t *testing.T) {
	for _, secret := range []string{"!u", "!v", "!w"} {
		for _, nonce := range aRelying().Asked {
			y, token := aRelying(), tokenText(secret, nonce, "dev", 7)
			expectAccepted(t, "each issuer, each nonce", y, token, nonce, withTaken(y, nonce), impl.TkOk)
			next, _ := impl.Accept(y, token, nonce, "dev", 7)
			expectAccepted(t, "once more", next, token, nonce, next, impl.TkNonce)
			expectAsked(t, "asked for once more", next, nonce, next, impl.TkAgain)
		}
	}
	for at, name := range takenNames(8) {
		y := relyingOf(keyNames(8), []string{"x"}, takenNames(impl.MaxTaken-1))
		expectAccepted(t, "the most issuers", y, tokenText("!"+name, "x", "dev", 7), "x", withTaken(y, "x"), impl.TkOk)
		y.Issuers = slices.Delete(slices.Clone(y.Issuers), at, at+1)
		expectAccepted(t, "an issuer no more", y, tokenText("!"+name, "x", "dev", 7), "x", y, impl.TkSign)
	}
	for _, nonce := range []string{nonceText(3), "(pub !v)", "!v", nested(impl.MaxDeep-2, "a"), termOf(impl.MaxTerm - 40)} {
		y := withAsked(aRelying(), nonce)
		expectAccepted(t, "any nonce", y, tokenText("!v", nonce, "dev", 7), nonce, withTaken(y, nonce), impl.TkOk)
	}
	for _, c := range []struct {
		name  string
		boots int64
	}{{"dev", 0}, {"dev", impl.MaxNumber}, {"abcdefghijkl", 1}, {"n1", 1}, {"token", 5}} {
		got, code := impl.Accept(aRelying(), tokenText("!v", "d", c.name, c.boots), "d", c.name, c.boots)
		if code != impl.TkOk || !sameRelying(got, withTaken(aRelying(), "d")) {
			t.Error("any name and boots", c, got, code)
		}
	}
}

func TestWhereTheNonceGoes(t *testing.T) {
	for _, c := range []struct {
		nonce string
		taken []string
	}{{"b", []string{"b", "c", "e", "g"}}, {"d", []string{"c", "d", "e", "g"}}, {"f", []string{"c", "e", "f", "g"}}, {"h", []string{"c", "e", "g", "h"}}, {"(hash z)", []string{"(hash z)", "c", "e", "g"}}} {
		y := withAsked(relyingOf([]string{"(pub !v)"}, []string{"a", "z"}, []string{"c", "e", "g"}), c.nonce)
		got, code := impl.Accept(y, tokenText("!v", c.nonce, "dev", 7), c.nonce, "dev", 7)
		if code != impl.TkOk {
			t.Error(c.nonce, code)
		}
		expect(t, "asked", got.Asked, "a", "z")
		expect(t, "taken", got.Taken, c.taken...)
		expect(t, "issuers", got.Issuers, "(pub !v)")
	}
	// What waits though it was taken is still right, and stands once among Taken.
	both := relyingOf([]string{"(pub !v)"}, []string{"a", "b"}, []string{"b", "c"})
	expectAccepted(t, "taken already", both, tokenText("!v", "b", "dev", 7), "b", relyingOf(both.Issuers, []string{"a"}, both.Taken), impl.TkOk)
	full := relyingOf([]string{"(pub !v)"}, []string{"t000"}, takenNames(impl.MaxTaken))
	expectAccepted(t, "taken already, and full", full, tokenText("!v", "t000", "dev", 7), "t000", full, impl.TkFull)
}

// wrongTokens are not what an issuer of aRelying makes for d, dev and 7.
func wrongTokens() []string {
	wrong := allNoTerms()
	for _, secret := range []string{"!x", "!vv", "!uv", "!root", "!abcdefghijkl"} {
		wrong = append(wrong, tokenText(secret, "d", "dev", 7))
	}
	right := tokenText("!v", "d", "dev", 7)
	told := "(hash token d dev n7)"
	return append(wrong, tokenText("!v", "b", "dev", 7), tokenText("!v", "a", "dev", 7), tokenText("!v", "(hash d)", "dev", 7), tokenText("!v", "d", "box", 7), tokenText("!v", "d", "de", 7), tokenText("!v", "d", "dev", 6), tokenText("!v", "d", "dev", 70), tokenText("!v", "dev", "d", 7),
		"d", "!v", "(pub !v)", told, "(pair !v "+told+")", "(seal !v "+told+")", "(hash !v "+told+")", "(sign !v "+right+")", "(sign !v token)", "(sign !v d)", "(pair "+right+" a)",
		"(sign !v (hash quote d dev n7))", "(sign !v (hash token dev n7))", "(sign !v (hash token d dev n7 n7))", "(sign !v (hash token d n7 dev))", "(sign !v (hash token d dev n07))", "(sign !v (hash token d dev 7))", "(sign !v (hash token d !dev n7))", "(sign !v (hash token !d dev n7))", "(sign v "+told+")", "(sign (pub !v) "+told+")",
		right+" ", " "+right, right[1:], right+")", strings.ToUpper(right))
}

func TestAcceptThatIsRefused(t *testing.T) {
	y := aRelying()
	for _, token := range append(wrongTokens(), tokenText("!v", "d", "dev", 7), tokenText("!v", "z", "dev", 7), tokenText("!v", "a", "dev", 7)) {
		for _, nonce := range append(allNoTerms(), "a", "c", "z", "(hash d)", "dd", "!d", nonceText(1)) {
			expectAccepted(t, "not asked for", y, token, nonce, y, impl.TkNonce)
		}
	}
	full := relyingOf(y.Issuers, y.Asked, takenNames(impl.MaxTaken))
	for _, token := range wrongTokens() {
		expectAccepted(t, "a wrong token", y, token, "d", y, impl.TkSign)
		expectAccepted(t, "a wrong token, and full", full, token, "d", full, impl.TkSign)
		expectAccepted(t, "nobody to trust", relyingOf(nil, y.Asked, nil), token, "d", relyingOf(nil, y.Asked, nil), impl.TkSign)
	}
	expectAccepted(t, "nobody to trust", relyingOf(nil, y.Asked, nil), tokenText("!v", "d", "dev", 7), "d", relyingOf(nil, y.Asked, nil), impl.TkSign)
	expectAccepted(t, "full", full, tokenText("!v", "d", "dev", 7), "d", full, impl.TkFull)
	expectAccepted(t, "full, and not asked for", full, tokenText("!v", "z", "dev", 7), "z", full, impl.TkNonce)
	expectAccepted(t, "full, and taken", full, tokenText("!v", "t007", "dev", 7), "t007", full, impl.TkNonce)
	for _, wrong := range wrongRelyings() {
		for _, token := range []string{tokenText("!v", "d", "dev", 7), "", "a"} {
			for _, nonce := range []string{"d", "a", "", "z"} {
				expectAccepted(t, "not right", wrong, token, nonce, impl.Relying{}, impl.TkRelying)
			}
		}
	}
}

func TestAcceptForWrongNamesAndBoots(t *testing.T) {
	y := aRelying()
	for _, name := range append(slices.Clone(wrongNames), "(pair a b)", "!dev", "dev n7", "box", "") {
		for _, token := range []string{"(sign !v (hash token d " + name + " n7))", tokenText("!v", "d", "dev", 7), "", "a"} {
			if name == "box" && token == "(sign !v (hash token d box n7))" {
				continue
			}
			if got, code := impl.Accept(y, token, "d", name, 7); code != impl.TkSign || !sameRelying(got, y) {
				t.Error("for a wrong name", token, name, code)
			}
		}
	}
	for _, boots := range append(slices.Clone(wrongNumbers), 6, 8, 70) {
		for _, token := range []string{tokenText("!v", "d", "dev", 7), "", "a", "(sign !v (hash token d dev n-1))", "(sign !v (hash token d dev n1000000001))", "(sign !v (hash token d dev ))"} {
			if got, code := impl.Accept(y, token, "d", "dev", boots); code != impl.TkSign || !sameRelying(got, y) {
				t.Error("for wrong boots", token, boots, code)
			}
		}
	}
}

func expectTold(t *testing.T, token string, want string, there bool) {
	t.Helper()
	if got, ok := impl.Told(token); got != want || ok != there {
		t.Errorf("told %.200q: got %.200q %v, want %.200q", token, got, ok, want)
	}
}

func TestTold(t *testing.T) {
	for _, told := range []string{"(hash token n dev n1)", "(hash token (hash !v n0) dev n1)", "(hash token token token token)", "(hash token !a (pair a b) (pub !k))", "(hash token n dev n1000000001)", "(hash token n !dev (hash a))"} {
		for _, secret := range []string{"!v", "!x", "!abcdefghijkl"} {
			expectTold(t, "(sign "+secret+" "+told+")", told, true)
		}
		for _, token := range []string{told, "(hash " + told + ")", "(pair !v " + told + ")", "(seal !v " + told + ")", "(hash !v " + told + ")", "(sign !v (sign !v " + told + "))", "(sign !v (hash " + told + "))", "(pair (sign !v " + told + ") a)", "(sign v " + told + ")", "(sign (pub !v) " + told + ")", "(sign !v " + told + ") ", " (sign !v " + told + ")", "(sign !v " + told, "(sign !v " + told + " a)"} {
			expectTold(t, token, "", false)
		}
	}
	for _, told := range []string{"token", "(hash token)", "(hash token n)", "(hash token n dev)", "(hash token n dev n1 n1)", "(hash token a b c d e f g)", "(hash quote n dev n1)", "(hash tokens n dev n1)", "(hash toke n dev n1)", "(hash !token n dev n1)", "(hash (hash token) n dev n1)", "(hash n token dev n1)", "(hash cert n dev n1)", "(pair token n)", "(seal token n)", "!token", "(pub !token)", "(sign !token n)"} {
		if impl.KindOf("(sign !v "+told+")") != impl.TmSign {
			t.Fatal("it is a sign", told)
		}
		expectTold(t, "(sign !v "+told+")", "", false)
	}
	for _, noTerm := range append(allNoTerms(), "(sign !v (hash token n Dev n1))", "(sign !v (hash token  n dev n1))", "(sign !v (hash token n dev n1)", "(sign !v (hash token n dev))x") {
		expectTold(t, noTerm, "", false)
	}
}

// A tokenWalk goes on from a Relying, and knows what was asked for and how often each nonce was accepted.
type tokenWalk struct {
	relying  impl.Relying
	asked    map[string]bool
	accepted map[string]int
}

func (w *tokenWalk) askFor(t *testing.T, nonce string) {
	t.Helper()
	waiting := 0
	for one, there := range w.asked {
		if there && w.accepted[one] == 0 {
			waiting++
		}
	}
	next, code := impl.AskFor(w.relying, nonce)
	want := int64(impl.TkOk)
	switch {
	case w.asked[nonce]:
		want = impl.TkAgain
	case waiting == impl.MaxAsked:
		want = impl.TkFull
	}
	if code != want || code != impl.TkOk && !sameRelying(next, w.relying) {
		t.Error("ask for", nonce, code, want)
	}
	w.relying = next
	w.asked[nonce] = w.asked[nonce] || code == impl.TkOk
}

func (w *tokenWalk) accept(t *testing.T, r *rand.Rand, nonce string) {
	t.Helper()
	signer, signed, name, boots := pick(r, "!u", "!v", "!x"), nonce, "dev", int64(7)
	if r.Intn(6) == 0 {
		signed = nameOf(r.Int63n(40))
	}
	if r.Intn(6) == 0 {
		name = pick(r, "dev", "box")
	}
	if r.Intn(6) == 0 {
		boots = 6 + r.Int63n(3)
	}
	next, code := impl.Accept(w.relying, tokenText(signer, signed, name, boots), nonce, "dev", 7)
	want := int64(impl.TkOk)
	switch {
	case !w.asked[nonce] || w.accepted[nonce] > 0:
		want = impl.TkNonce
	case signer == "!x" || signed != nonce || name != "dev" || boots != 7:
		want = impl.TkSign
	case len(w.accepted) == impl.MaxTaken:
		want = impl.TkFull
	}
	if code != want || code != impl.TkOk && !sameRelying(next, w.relying) {
		t.Error("accept", nonce, code, want)
	}
	w.relying = next
	if code == impl.TkOk {
		w.accepted[nonce]++
	}
}

// Promise 14: a token is taken once, for what it was made for, from an issuer alone.
func TestTokensAreTakenOnce(t *testing.T) {
	r := rand.New(rand.NewSource(61))
	for _, many := range []int64{5, 40, 300} {
		for range 8 {
			w := tokenWalk{relying: relyingOf([]string{"(pub !u)", "(pub !v)"}, nil, nil), asked: map[string]bool{}, accepted: map[string]int{}}
			for range 4 * many {
				nonce := nameOf(r.Int63n(many))
				if r.Intn(4) == 0 {
					w.askFor(t, nonce)
					continue
				}
				if waiting := w.relying.Asked; len(waiting) > 0 && r.Intn(3) > 0 {
					nonce = pick(r, waiting...)
				}
				w.accept(t, r, nonce)
				if !impl.RelyingOk(w.relying) {
					t.Fatal("it is right no more", w.relying)
				}
			}
			for nonce, often := range w.accepted {
				if often != 1 || !slices.Contains(w.relying.Taken, nonce) || slices.Contains(w.relying.Asked, nonce) {
					t.Error("taken once", nonce, often)
				}
			}
			if len(w.relying.Taken) != len(w.accepted) {
				t.Error("taken", w.relying.Taken)
			}
		}
	}
}

func TestTokensUntilItIsFull(t *testing.T) {
	y := relyingOf([]string{"(pub !v)"}, nil, nil)
	for at, nonce := range takenNames(impl.MaxTaken + 3) {
		asked, code := impl.AskFor(y, nonce)
		if code != impl.TkOk {
			t.Fatal("asked for", at, code)
		}
		next, code := impl.Accept(asked, tokenText("!v", nonce, "dev", 7), nonce, "dev", 7)
		if full := at >= impl.MaxTaken; full != (code == impl.TkFull) || full && !sameRelying(next, asked) || !full && !sameRelying(next, withTaken(asked, nonce)) {
			t.Fatal("taken", at, code)
		}
		y = next
	}
}

// A verdict's Token is good for who relies on the verifier, and for what the verdict is of.
func TestTokensOfVerdicts(t *testing.T) {
	images := someImages(2)
	e := evidenceOf(loadsOf(images), 255)
	_, verdict := impl.Appraise(verifierFor(images), e)
	y := relyingOf([]string{"(pub !v)"}, []string{nonceText(5), nonceText(8)}, nil)
	if got, code := impl.Accept(y, verdict.Token, e.Nonce, verdict.Name, e.Boots); code != impl.TkOk || !sameRelying(got, withTaken(y, e.Nonce)) {
		t.Error("accepted", got, code)
	}
	for _, c := range []struct {
		nonce, name string
		boots       int64
	}{{nonceText(5), "dev", 3}, {nonceText(8), "box", 3}, {nonceText(8), "dev", 4}, {nonceText(8), "dev", math.MaxInt64}} {
		if got, code := impl.Accept(y, verdict.Token, c.nonce, c.name, c.boots); code != impl.TkSign || !sameRelying(got, y) {
			t.Error("for another one", c, code)
		}
	}
}
