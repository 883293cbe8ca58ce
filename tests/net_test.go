package tests

import (
	"math"
	"math/rand"
	"slices"
	"testing"

	"loop.example/g00082/impl"
)

func netOf(known []string, queue []string) impl.Net {
	return impl.Net{Known: known, Queue: queue}
}

// aNet has in its Queue two alike, something known and something not.
func aNet() impl.Net {
	return netOf([]string{"!k", "(pair a !s)", "b", "d"}, []string{"x", "b", "(hash !z)", "b", "d"})
}

// withKnown knows one more.
func withKnown(n impl.Net, term string) impl.Net {
	n.Known = slices.Clone(n.Known)
	if !slices.Contains(n.Known, term) {
		n.Known = append(n.Known, term)
		slices.Sort(n.Known)
	}
	return n
}

func withQueued(n impl.Net, term string) impl.Net {
	n.Queue = append(slices.Clone(n.Queue), term)
	return n
}

func sentOn(n impl.Net, term string) impl.Net {
	return withQueued(withKnown(n, term), term)
}

// mostKnown are MaxKnown terms, rising, the first of them a secret.
func mostKnown() []string {
	return append([]string{"!s"}, takenNames(impl.MaxKnown-1)...)
}

// mostQueued are MaxQueue terms, all alike but the last.
func mostQueued() []string {
	return append(slices.Repeat([]string{"x"}, impl.MaxQueue-1), "(hash y)")
}

func rightNets() []impl.Net {
	right := []impl.Net{{}, netOf([]string{}, []string{}), aNet(), netOf(mostKnown(), nil), netOf(nil, mostQueued()), netOf(mostKnown(), mostQueued()), netOf(mostKnown()[:impl.MaxKnown-1], mostQueued()[1:])}
	for _, list := range [][]string{{"!a", "(hash a)", "a"}, {"a", "ab", "b"}, {"n10", "n2"}, {nested(impl.MaxDeep, "a")}, {termOf(impl.MaxTerm)}, {"(pub !k)", "(sign !k a)"}} {
		right = append(right, netOf(list, nil), netOf(nil, list), netOf(list, list))
	}
	for _, list := range [][]string{{"b", "a"}, {"a", "a"}, {"n2", "n10"}, {"a", "b", "a"}} {
		right = append(right, netOf(nil, list), netOf(aNet().Known, list))
	}
	return right
}

// wrongNets are not right, in all the ways that the document has; each differs in one thing from a right one.
func wrongNets() []impl.Net {
	right := aNet()
	tooMany := append(mostKnown(), "z")
	wrong := []impl.Net{
		netOf(tooMany, nil), netOf(tooMany, right.Queue), netOf(takenNames(1000), nil),
		netOf(nil, append(mostQueued(), "x")), netOf(right.Known, append(mostQueued(), "x")), netOf(nil, slices.Repeat([]string{"a"}, 1000)),
	}
	for _, list := range notRising() {
		wrong = append(wrong, netOf(list, nil), netOf(list, right.Queue))
	}
	for _, noTerm := range allNoTerms() {
		for _, at := range []int{0, 2, len(right.Queue)} {
			wrong = append(wrong, netOf(right.Known, slices.Insert(slices.Clone(right.Queue), at, noTerm)))
		}
		wrong = append(wrong, netOf(nil, []string{noTerm}), netOf(nil, append(mostQueued()[1:], noTerm)))
	}
	return wrong
}

func TestWhatNetsAreRight(t *testing.T) {
	for _, n := range rightNets() {
		if given := spacious(n); !impl.NetOk(given) || !sameToTheEnd(given, spacious(n)) {
			t.Errorf("it is right: %.300q", n)
		}
	}
	for _, n := range wrongNets() {
		if given := spacious(n); impl.NetOk(given) || !sameToTheEnd(given, spacious(n)) {
			t.Errorf("it is not right: %.300q", n)
		}
	}
	if !slices.Equal([]int64{impl.NtOk, impl.NtNet, impl.NtTerm, impl.NtFull, impl.NtNone, impl.NtRecipe}, []int64{0, 1, 2, 3, 4, 5}) || impl.MaxQueue != 40 {
		t.Error("numbers of the codes")
	}
}

// expectNet asks twice for an answer to a Net: it is the one that is wanted, in its own memory, and the Net stays as it was.
func expectNet(t *testing.T, what string, n impl.Net, ask func(impl.Net) (impl.Net, string, int64), want impl.Net, wantTold string, wantCode int64) {
	t.Helper()
	given := spacious(n)
	for range 2 {
		got, told, code := ask(given)
		if !same(got, want) || told != wantTold || code != wantCode {
			t.Errorf("%s: %.400q: got %.400q %.200q %d, want %.400q %.200q %d", what, n, got, told, code, want, wantTold, wantCode)
		}
		expectOwnMemory(t, what, got, given)
		if !sameToTheEnd(given, spacious(n)) {
			t.Errorf("%s: the net was %.400q, and is %.400q", what, n, given)
		}
		scribble(got.Known)
		scribble(got.Queue)
	}
}

func expectSend(t *testing.T, what string, n impl.Net, term string, want impl.Net, wantCode int64) {
	t.Helper()
	send := func(given impl.Net) (impl.Net, string, int64) {
		got, code := impl.Send(given, term)
		return got, "", code
	}
	expectNet(t, what, n, send, want, "", wantCode)
}

func expectTake(t *testing.T, what string, n impl.Net, at int64, keep bool, want impl.Net, wantTold string, wantCode int64) {
	t.Helper()
	take := func(given impl.Net) (impl.Net, string, int64) { return impl.Take(given, at, keep) }
	expectNet(t, what, n, take, want, wantTold, wantCode)
}

func expectForge(t *testing.T, what string, n impl.Net, recipe []impl.RStep, want impl.Net, wantTold string, wantCode int64) {
	t.Helper()
	steps := spacious(recipe)
	forge := func(given impl.Net) (impl.Net, string, int64) { return impl.Forge(given, steps) }
	expectNet(t, what, n, forge, want, wantTold, wantCode)
	if !sameToTheEnd(steps, spacious(recipe)) {
		t.Error(what, "the recipe was", recipe, "and is", steps)
	}
}

func expectSteal(t *testing.T, what string, n impl.Net, secret string, want impl.Net, wantCode int64) {
	t.Helper()
	steal := func(given impl.Net) (impl.Net, string, int64) {
		got, code := impl.Steal(given, secret)
		return got, "", code
	}
	expectNet(t, what, n, steal, want, "", wantCode)
}

func TestSend(t *testing.T) {
	for _, term := range []string{"a", "b", "c", "d", "e", "!a", "!k", "!z", "(hash !z)", "(pair a !s)", "(pub !k)", "x", nested(impl.MaxDeep, "a"), termOf(impl.MaxTerm)} {
		for _, n := range []impl.Net{{}, aNet(), netOf(nil, aNet().Queue), netOf(aNet().Known, nil), netOf(mostKnown()[:impl.MaxKnown-1], mostQueued()[1:])} {
			expectSend(t, "a term", n, term, sentOn(n, term), impl.NtOk)
			once, _ := impl.Send(n, term)
			if len(once.Queue) < impl.MaxQueue {
				expectSend(t, "and again", once, term, withQueued(once, term), impl.NtOk)
			}
		}
	}
	for _, c := range []struct {
		term  string
		known []string
	}{{"a", []string{"a", "b", "d"}}, {"c", []string{"b", "c", "d"}}, {"e", []string{"b", "d", "e"}}, {"!z", []string{"!z", "b", "d"}}, {"bb", []string{"b", "bb", "d"}}, {"b", []string{"b", "d"}}, {"d", []string{"b", "d"}}} {
		got, code := impl.Send(netOf([]string{"b", "d"}, []string{"q", "a"}), c.term)
		if code != impl.NtOk {
			t.Error(c.term, code)
		}
		expect(t, "at its place", got.Known, c.known...)
		expect(t, "the last one", got.Queue, "q", "a", c.term)
	}
}

func TestSendThatIsRefused(t *testing.T) {
	fullQueue, fullKnown := netOf(aNet().Known, mostQueued()), netOf(mostKnown(), aNet().Queue)
	both := netOf(mostKnown(), mostQueued())
	for _, n := range []impl.Net{{}, aNet(), fullQueue, fullKnown, both} {
		for _, noTerm := range allNoTerms() {
			expectSend(t, "no term", n, noTerm, n, impl.NtTerm)
		}
	}
	for _, term := range []string{"z", "b", "x", "(hash y)", "!k"} {
		expectSend(t, "a full queue", fullQueue, term, fullQueue, impl.NtFull)
	}
	for _, term := range []string{"z", "x", "!z", "(hash !s)", "t0000"} {
		expectSend(t, "all that can be known", fullKnown, term, fullKnown, impl.NtFull)
		expectSend(t, "all that can be known, and a full queue", both, term, both, impl.NtFull)
	}
	for _, term := range []string{"!s", "t000", "t030", "t058"} {
		expectSend(t, "one that is known", fullKnown, term, withQueued(fullKnown, term), impl.NtOk)
		expectSend(t, "one that is known, and a full queue", both, term, both, impl.NtFull)
	}
	for _, n := range wrongNets() {
		for _, term := range []string{"a", "b", ""} {
			expectSend(t, "no net", n, term, impl.Net{}, impl.NtNet)
		}
	}
}

func TestSendUntilItIsFull(t *testing.T) {
	n := impl.Net{}
	for at, term := range takenNames(impl.MaxQueue + 2) {
		want, wantCode := sentOn(n, term), int64(impl.NtOk)
		if at >= impl.MaxQueue {
			want, wantCode = n, impl.NtFull
		}
		expectSend(t, "one after the other", n, term, want, wantCode)
		n, _ = impl.Send(n, term)
	}
	n = impl.Net{}
	for at, term := range takenNames(impl.MaxKnown + 2) {
		want, wantCode := sentOn(n, term), int64(impl.NtOk)
		if at >= impl.MaxKnown {
			want, wantCode = n, impl.NtFull
		}
		expectSend(t, "what is taken makes room in the queue alone", n, term, want, wantCode)
		n, _ = impl.Send(n, term)
		if at < impl.MaxKnown {
			n, _, _ = impl.Take(n, 0, false)
		}
	}
}

func TestTake(t *testing.T) {
	for _, n := range []impl.Net{aNet(), netOf(nil, aNet().Queue), netOf(nil, []string{"a"}), netOf(nil, []string{"a", "a"}), netOf(mostKnown(), mostQueued()), netOf(nil, takenNames(impl.MaxQueue)), netOf(nil, []string{termOf(impl.MaxTerm), nested(impl.MaxDeep, "a")})} {
		for at, term := range n.Queue {
			left := netOf(n.Known, slices.Delete(slices.Clone(n.Queue), at, at+1))
			expectTake(t, "left out", n, int64(at), false, left, term, impl.NtOk)
			expectTake(t, "kept", n, int64(at), true, n, term, impl.NtOk)
		}
	}
	for _, n := range append(rightNets(), netOf(aNet().Known, []string{})) {
		last := int64(len(n.Queue)) - 1
		for _, at := range []int64{-1, last + 1, last + 2, -last - 1, impl.MaxQueue, math.MinInt64, math.MaxInt64} {
			if at < 0 || at > last {
				expectTake(t, "no place", n, at, false, n, "", impl.NtNone)
				expectTake(t, "no place", n, at, true, n, "", impl.NtNone)
			}
		}
	}
	for _, n := range wrongNets() {
		for _, at := range []int64{-1, 0, 2, 40} {
			expectTake(t, "no net", n, at, at == 2, impl.Net{}, "", impl.NtNet)
		}
	}
	// Of two alike just the one at the place goes.
	expectTake(t, "the first of two", aNet(), 1, false, netOf(aNet().Known, []string{"x", "(hash !z)", "b", "d"}), "b", impl.NtOk)
	expectTake(t, "the second of two", aNet(), 3, false, netOf(aNet().Known, []string{"x", "b", "(hash !z)", "d"}), "b", impl.NtOk)
}

// A forging is a recipe by aNet, and the last term that it makes.
type forging struct {
	recipe []impl.RStep
	made   string
}

func forgings() []forging {
	step := func(op int64, places ...int64) impl.RStep { return impl.RStep{Op: op, Args: places} }
	name := impl.RStep{Op: impl.RcName, Name: "y"}
	return []forging{
		{[]impl.RStep{name}, "y"},
		{[]impl.RStep{step(impl.RcPair, 0, 3)}, "(pair !k d)"},
		{[]impl.RStep{step(impl.RcHash, 2, 2, 0)}, "(hash b b !k)"},
		{[]impl.RStep{step(impl.RcSign, 0, 2)}, "(sign !k b)"},
		{[]impl.RStep{step(impl.RcPub, 0)}, "(pub !k)"},
		{[]impl.RStep{step(impl.RcSeal, 2, 1)}, "(seal b (pair a !s))"},
		{[]impl.RStep{step(impl.RcFirst, 1)}, "a"},
		{[]impl.RStep{step(impl.RcSecond, 1)}, "!s"},
		{[]impl.RStep{step(impl.RcSign, 0, 1), step(impl.RcRead, 4)}, "(pair a !s)"},
		{[]impl.RStep{step(impl.RcSeal, 2, 3), step(impl.RcOpen, 4, 2)}, "d"},
		{[]impl.RStep{step(impl.RcSecond, 1), name, step(impl.RcSign, 4, 5)}, "(sign !s y)"},
		{[]impl.RStep{step(impl.RcSecond, 1), step(impl.RcSign, 4, 2), step(impl.RcFirst, 1)}, "a"},
		{[]impl.RStep{step(impl.RcHash, 3), {Op: impl.RcName, Name: "b"}}, "b"},
		{[]impl.RStep{{Op: impl.RcName, Name: "x"}}, "x"},
		{slices.Repeat([]impl.RStep{name}, impl.MaxRecipe), "y"},
	}
}

// wrongRecipes have each code by aNet, alone and behind other steps.
func wrongRecipes() [][]impl.RStep {
	good := impl.RStep{Op: impl.RcHash, Args: args(0)}
	wrong := [][]impl.RStep{slices.Repeat([]impl.RStep{good}, impl.MaxRecipe+1)}
	for _, step := range []impl.RStep{
		{}, {Op: 11}, {Op: impl.RcName}, {Op: impl.RcName, Name: "!k"}, {Op: impl.RcHash, Args: args(99)}, {Op: impl.RcHash, Args: args(-1)}, {Op: impl.RcHash}, {Op: impl.RcHash, Args: args(0), Name: "x"},
		{Op: impl.RcPub, Args: args(2)}, {Op: impl.RcSign, Args: args(2, 0)}, {Op: impl.RcFirst, Args: args(0)}, {Op: impl.RcRead, Args: args(1)}, {Op: impl.RcOpen, Args: args(1, 0)},
	} {
		wrong = append(wrong, []impl.RStep{step}, []impl.RStep{good, good, step}, []impl.RStep{good, step, good})
	}
	return append(wrong, []impl.RStep{{Op: impl.RcSeal, Args: args(0, 0)}, {Op: impl.RcOpen, Args: args(4, 2)}})
}

func TestForge(t *testing.T) {
	for _, f := range forgings() {
		for _, queue := range [][]string{nil, aNet().Queue, mostQueued()[1:], {f.made}, {f.made, f.made, "z"}} {
			n := netOf(aNet().Known, queue)
			expectForge(t, "forged", n, f.recipe, withQueued(n, f.made), f.made, impl.NtOk)
		}
	}
	most := netOf(mostKnown(), nil)
	expectForge(t, "with all that can be known", most, []impl.RStep{{Op: impl.RcPub, Args: args(0)}}, withQueued(most, "(pub !s)"), "(pub !s)", impl.NtOk)
	expectForge(t, "with the last one known", most, []impl.RStep{{Op: impl.RcHash, Args: args(impl.MaxKnown - 1)}}, withQueued(most, "(hash t058)"), "(hash t058)", impl.NtOk)
	// What is under way, and what was made ahead of it, is no place of a recipe.
	expectForge(t, "what is under way", netOf(nil, []string{"x"}), []impl.RStep{{Op: impl.RcHash, Args: args(0)}}, netOf(nil, []string{"x"}), "", impl.NtRecipe)
	once, _, _ := impl.Forge(aNet(), []impl.RStep{{Op: impl.RcPub, Args: args(0)}})
	expectForge(t, "what was forged", once, []impl.RStep{{Op: impl.RcHash, Args: args(4)}}, once, "", impl.NtRecipe)
}

func TestForgeThatIsRefused(t *testing.T) {
	full := netOf(aNet().Known, mostQueued())
	for _, n := range []impl.Net{aNet(), full} {
		for _, recipe := range append(wrongRecipes(), nil, []impl.RStep{}) {
			expectForge(t, "a recipe that has a code, or no steps", n, recipe, n, "", impl.NtRecipe)
		}
	}
	for _, f := range forgings() {
		expectForge(t, "a full queue", full, f.recipe, full, "", impl.NtFull)
	}
	expectForge(t, "nothing known, no steps", impl.Net{}, nil, impl.Net{}, "", impl.NtRecipe)
	for _, n := range wrongNets() {
		for _, recipe := range [][]impl.RStep{nil, {{Op: impl.RcName, Name: "y"}}, {{}}} {
			expectForge(t, "no net", n, recipe, impl.Net{}, "", impl.NtNet)
		}
	}
}

func TestSteal(t *testing.T) {
	for _, secret := range []string{"!a", "!j", "!k", "!kk", "!s", "!z", "!v", "!root", "!abcdefghijkl"} {
		for _, n := range []impl.Net{{}, aNet(), netOf(aNet().Known, mostQueued()), netOf(mostKnown()[1:], nil)} {
			expectSteal(t, "a secret", n, secret, withKnown(n, secret), impl.NtOk)
		}
	}
	n, code := impl.Steal(netOf([]string{"!b", "(hash a)", "a"}, []string{"q"}), "!c")
	if code != impl.NtOk {
		t.Error(code)
	}
	expect(t, "at its place", n.Known, "!b", "!c", "(hash a)", "a")
	expect(t, "the queue", n.Queue, "q")
}

func TestStealThatIsRefused(t *testing.T) {
	full, both := netOf(mostKnown(), aNet().Queue), netOf(mostKnown(), mostQueued())
	for _, n := range []impl.Net{{}, aNet(), full, both} {
		for _, other := range append(slices.Clone(noSecrets), "a", "b", "t001", "(pair a !s)", "(hash !s)", "(seal !s !s)", nested(impl.MaxDeep, "!s")) {
			expectSteal(t, "no secret", n, other, n, impl.NtTerm)
		}
	}
	for _, n := range []impl.Net{full, both} {
		expectSteal(t, "one that is known", n, "!s", n, impl.NtOk)
		for _, secret := range []string{"!a", "!ss", "!z"} {
			expectSteal(t, "all that can be known", n, secret, n, impl.NtFull)
		}
	}
	for _, n := range wrongNets() {
		for _, secret := range []string{"!k", "!a", "a", ""} {
			expectSteal(t, "no net", n, secret, impl.Net{}, impl.NtNet)
		}
	}
}

// A netWalk goes on from a Net by what may be done to it, and holds each answer.
type netWalk struct {
	net          impl.Net
	forged, took int
}

func (w *netWalk) send(t *testing.T, term string) {
	t.Helper()
	want, wantCode := sentOn(w.net, term), int64(impl.NtOk)
	if len(w.net.Queue) == impl.MaxQueue || len(want.Known) > impl.MaxKnown {
		want, wantCode = w.net, impl.NtFull
	}
	expectSend(t, "a walk", w.net, term, want, wantCode)
	w.net = want
}

func (w *netWalk) take(t *testing.T, at int64, keep bool) {
	t.Helper()
	if at >= int64(len(w.net.Queue)) {
		expectTake(t, "a walk", w.net, at, keep, w.net, "", impl.NtNone)
		return
	}
	want := w.net
	if !keep {
		want.Queue = slices.Delete(slices.Clone(want.Queue), int(at), int(at)+1)
	}
	expectTake(t, "a walk", w.net, at, keep, want, w.net.Queue[at], impl.NtOk)
	w.net = want
	w.took++
}

// forge asks for terms that can be made of what is known; when a step has a code nothing comes of it.
func (w *netWalk) forge(t *testing.T, recipe []impl.RStep) {
	t.Helper()
	made, code, _ := impl.RunRecipe(w.net.Known, recipe)
	switch {
	case code != 0 || len(made) == 0:
		expectForge(t, "a walk", w.net, recipe, w.net, "", impl.NtRecipe)
	case len(w.net.Queue) == impl.MaxQueue:
		expectForge(t, "a walk", w.net, recipe, w.net, "", impl.NtFull)
	default:
		last := made[len(made)-1]
		expectForge(t, "a walk", w.net, recipe, withQueued(w.net, last), last, impl.NtOk)
		if !impl.CanMake(w.net.Known, last) {
			t.Errorf("forged %q of %q", last, w.net.Known)
		}
		w.net = withQueued(w.net, last)
		w.forged++
	}
}

func (w *netWalk) steal(t *testing.T, secret string) {
	t.Helper()
	want, wantCode := withKnown(w.net, secret), int64(impl.NtOk)
	if len(want.Known) > impl.MaxKnown {
		want, wantCode = w.net, impl.NtFull
	}
	expectSteal(t, "a walk", w.net, secret, want, wantCode)
	w.net = want
}

// Promise 17: what is forged can be made of what is known; what is taken was under way, and is so still just when it was to be kept.
func TestNetWalks(t *testing.T) {
	r := rand.New(rand.NewSource(81))
	forged, took := 0, 0
	for range 40 {
		w := netWalk{}
		for range 150 {
			switch r.Intn(8) {
			case 0, 1, 2:
				w.send(t, someTerm(r, 3))
			case 3, 4:
				w.take(t, r.Int63n(int64(len(w.net.Queue))+2), r.Intn(2) == 0)
			case 5, 6:
				var recipe []impl.RStep
				for range r.Intn(4) {
					recipe = append(recipe, someStep(r, max(0, len(w.net.Known)+len(recipe)-1)))
				}
				w.forge(t, recipe)
			case 7:
				w.steal(t, someSecret(r))
			}
			if !impl.NetOk(w.net) {
				t.Fatalf("it is right no more: %q", w.net)
			}
		}
		forged, took = forged+w.forged, took+w.took
	}
	if forged < 200 || took < 1000 {
		t.Error("too few", forged, took)
	}
}
