package tests

import (
	"math"
	"math/rand"
	"slices"
	"strings"
	"testing"

	"loop.example/g00082/impl"
)

func expectActs(t *testing.T, what string, w impl.World, list []impl.Action, want impl.World, wantDone int64) {
	t.Helper()
	given, acts := spacious(w), spacious(list)
	for range 2 {
		got, done := impl.ActAll(given, acts)
		if other := unlike(got, want); done != wantDone || other != "" {
			t.Errorf("%s: %d acts: got %d, want %d; got and want: %s", what, len(list), done, wantDone, other)
		}
		expectOwnMemory(t, what, got, given, acts)
	}
	if !sameToTheEnd(given, spacious(w)) || !sameToTheEnd(acts, spacious(list)) {
		t.Error(what, "an argument was changed:", unlike(given, w))
	}
}

// oneByOne is Act of each.
func oneByOne(w impl.World, list []impl.Action) (impl.World, int64) {
	done := int64(0)
	for _, a := range list {
		next, _, code := impl.Act(w, a)
		if code == impl.WoOk {
			done++
		}
		w = next
	}
	return w, done
}

func TestActAllOfNothingAndOfTooMany(t *testing.T) {
	tick, none := impl.Action{Kind: impl.AcTick, Number: 1}, impl.Action{}
	for _, w := range []impl.World{aWorld(), trusting(), withFacts(aWorld(), make([]impl.Fact, impl.MaxFacts)...)} {
		expectActs(t, "nothing", w, nil, w, 0)
		expectActs(t, "nothing", w, []impl.Action{}, w, 0)
		expectActs(t, "all refused", w, slices.Repeat([]impl.Action{none}, impl.MaxActions), w, 0)
		for _, n := range []int{impl.MaxActions + 1, impl.MaxActions + 2, 10 * impl.MaxActions} {
			expectActs(t, "too many", w, slices.Repeat([]impl.Action{tick}, n), impl.World{}, -1)
			expectActs(t, "too many that are refused", w, slices.Repeat([]impl.Action{none}, n), impl.World{}, -1)
		}
	}
	w := aWorld()
	for _, n := range []int{1, 7, impl.MaxActions - 1, impl.MaxActions} {
		want := w
		want.Verifier.Table.Now += int64(n)
		expectActs(t, "ticks", w, slices.Repeat([]impl.Action{tick}, n), want, int64(n))
	}
	for i, wrong := range wrongWorlds() {
		if i%5 == 0 {
			for _, list := range [][]impl.Action{nil, {tick}, {none}, slices.Repeat([]impl.Action{tick}, impl.MaxActions+1)} {
				expectActs(t, "not right", wrong, list, impl.World{}, -1)
			}
		}
	}
}

func TestActAllOfSomeThatAreRefused(t *testing.T) {
	done, refused := oneOfEach()
	refused = slices.DeleteFunc(refused, func(a impl.Action) bool { return a.Kind == impl.AcAsk })
	w := trusting()
	want, n := oneByOne(w, done)
	if n != int64(len(done)) || len(want.Facts) != len(w.Facts)+7 {
		t.Fatal("all are done", n, len(want.Facts))
	}
	expectActs(t, "all done", w, done, want, n)
	for at := range len(done) + 1 {
		for _, a := range append([]impl.Action{{}, {Kind: 10}, {Kind: impl.AcLoad, At: 9}}, refused[at%len(refused)]) {
			if a.Kind == impl.AcLoad && a.At == 2 && at > 0 {
				continue // device 2 is up by then
			}
			expectActs(t, "one that is refused", w, slices.Insert(slices.Clone(done), at, a), want, n)
		}
	}
	expectActs(t, "what may not be in this order", w, []impl.Action{done[1], {Kind: impl.AcNote, At: 2, Text: "x"}, {Kind: impl.AcLoad, At: 2, Image: strange}}, mustAct(t, w, done[1]), 1)
	nearly := withFacts(w, make([]impl.Fact, impl.MaxFacts-1)...)
	expectActs(t, "until it is full", nearly, done, mustAct(t, nearly, done[0]), 1)
	tick := impl.Action{Kind: impl.AcTick, Number: 1}
	want, _ = oneByOne(nearly, []impl.Action{tick, done[0]})
	expectActs(t, "a tick ahead of what is full, none behind it", nearly, []impl.Action{tick, done[0], tick, tick}, want, 2)
	good := shownBy(w.Devices[0], 255)
	shown := quotedOn(w, good)
	want = mustAct(t, shown, showing(good))
	expectActs(t, "a verdict on a nonce that is spent is not refused", shown, []impl.Action{showing(good), showing(good), showing(good)}, want, 3)
}

func mustAct(t *testing.T, w impl.World, a impl.Action) impl.World {
	t.Helper()
	next, _, code := impl.Act(w, a)
	if code != impl.WoOk {
		t.Fatal("it is done", brief(a), code)
	}
	return next
}

// The whole way, from a new world to a token that is accepted.
func TestFromResetToVerdict(t *testing.T) {
	images := someImages(2)
	w, ok := impl.WorldNew([]string{"!a", "!b"}, images, policyFor(images))
	if !ok {
		t.Fatal("a new world")
	}
	nonce := "(hash !v n0)"
	regs := folded(loadsOf(images))
	quote := "(sign !b (hash quote n1 " + nonce + " " + compositeText(regs, 255) + "))"
	token := "(sign !v (hash token " + nonce + " d1 n1))"
	evidence := impl.Evidence{Nonce: nonce, Boots: 1, Mask: 255, Shown: regs, Log: logBytes(loadsOf(images)), Certs: []impl.Cert{certOf("!root", "maker", "(pub !m)", 0, impl.MaxNumber), certOf("!m", "d1", "(pub !b)", 0, impl.MaxNumber)}, Quote: quote}
	var acts []impl.Action
	for _, step := range []struct {
		a    impl.Action
		told string
		fact impl.Fact
	}{
		{impl.Action{Kind: impl.AcRestart, At: 1, Number: 3}, "cut", impl.Fact{Kind: impl.FcRestart, At: 1}},
		{impl.Action{Kind: impl.AcRestart, At: 1, Number: 4}, "up", impl.Fact{Kind: impl.FcRestart, At: 1, Number: 1, Good: true}},
		{impl.Action{Kind: impl.AcLoad, At: 1, Image: images[0]}, "", impl.Fact{Kind: impl.FcLoad, At: 1, Images: images[:1], Good: true}},
		{impl.Action{Kind: impl.AcLoad, At: 1, Image: images[1]}, "", impl.Fact{Kind: impl.FcLoad, At: 1, Images: images[1:], Good: true}},
		{impl.Action{Kind: impl.AcAsk}, nonce, impl.Fact{Kind: impl.FcAsk, Text: nonce}},
		{impl.Action{Kind: impl.AcQuote, At: 1, Number: 255, Text: nonce}, quote, impl.Fact{Kind: impl.FcQuote, At: 1, Number: 1, Text: nonce, Images: images, Good: true}},
		{showing(evidence), "0", impl.Fact{Kind: impl.FcVerdict, Number: 1, Text: nonce, Images: images, Good: true}},
		{accepting(token, nonce, "d1", 1), "", impl.Fact{Kind: impl.FcAccept, Number: 1, Text: nonce}},
	} {
		next, told, code := impl.Act(w, step.a)
		if code != impl.WoOk || told != step.told || !same(next.Facts[len(w.Facts):], []impl.Fact{step.fact}) {
			t.Error(brief(step.a), told, code, next.Facts[len(w.Facts):])
		}
		w, acts = next, append(acts, step.a)
	}
	expect(t, "known", w.Net.Known, nonce, quote, token)
	expect(t, "under way", w.Net.Queue, nonce, quote, token)
	expect(t, "asked for", w.Relying.Asked)
	expect(t, "taken", w.Relying.Taken, nonce)
	if x := w.Verifier.Table; x.Next != 1 || len(x.Open) != 0 || x.Now != 0 {
		t.Error("the table", x)
	}
	expectActs(t, "all of it", newWorldOf(t, []string{"!a", "!b"}, images, policyFor(images)), acts, w, 8)
}

// An actWalk goes on from a world by actions of which some are refused, and keeps them.
type actWalk struct {
	world   impl.World
	acts    []impl.Action
	done    int64
	reached map[[2]int64]int // how often a kind had a code; for a verdict, 100 and its Code
}

func pickNumber(r *rand.Rand, from ...int64) int64 {
	return from[r.Intn(len(from))]
}

// someNonce is mostly one that is open.
func someNonce(r *rand.Rand, w impl.World) string {
	if open := impl.OpenNow(w.Verifier.Table); len(open) > 0 && r.Intn(10) > 0 {
		return pick(r, open...)
	}
	return pick(r, nonceText(0), nonceText(1), "x", "", "(hash !w n0)")
}

// showable is what devices as they are show with a quote that is known.
func showable(w impl.World) []impl.Evidence {
	var all []impl.Evidence
	for at, d := range w.Devices {
		certs, _ := impl.CertsOf(w, int64(at))
		for _, nonce := range impl.OpenNow(w.Verifier.Table) {
			for _, mask := range []int64{7, 255} {
				if e, ok := impl.EvidenceOf(d, nonce, mask, certs); ok && slices.Contains(w.Net.Known, e.Quote) {
					all = append(all, e)
				}
			}
		}
	}
	return all
}

// changed is evidence with something else in it, mostly what the network can make.
func changed(r *rand.Rand, w impl.World, e impl.Evidence) impl.Evidence {
	switch r.Intn(9) {
	case 0:
		e.Boots++
	case 1:
		e.Log = e.Log[:len(e.Log)-1]
	case 2:
		e.Log = impl.WriteLog(someReplay(r))
	case 3:
		e.Certs = nil
	case 4:
		e.Certs = append(e.Certs, certOf("!s", "d0", "(pub !s)", 0, 5))
	case 5:
		e.Quote = pick(r, "x", "!s", "(pub !k0)")
	case 6:
		e.Nonce = someNonce(r, w)
	case 7:
		e.Mask = r.Int63n(257)
	case 8:
		e.Certs = slices.Repeat(e.Certs, 1+r.Intn(6))
	}
	return e
}

// someShow is of nobody's evidence where there is none that is known.
func someShow(r *rand.Rand, w impl.World) impl.Action {
	e := impl.Evidence{Nonce: someNonce(r, w), Quote: pick(r, "x", "!s", "(hash x)")}
	if all := showable(w); len(all) > 0 {
		e = all[r.Intn(len(all))]
		if r.Intn(3) == 0 {
			e = changed(r, w, e)
		}
	}
	return showing(e)
}

// someAccept is mostly of a token that is known, for what it was made for.
func someAccept(r *rand.Rand, w impl.World) impl.Action {
	var tokens []string
	for _, term := range w.Net.Known {
		if _, ok := impl.Told(term); ok {
			tokens = append(tokens, term)
		}
	}
	if len(tokens) == 0 || r.Intn(10) == 0 {
		return accepting(pick(r, "", "x", tokenText("!v", "x", "d0", 1), tokenText("!s", nonceText(0), "d0", 1)), pick(r, nonceText(0), "x"), "d0", 1)
	}
	token := pick(r, tokens...)
	told, _ := impl.Told(token)
	parts := impl.PartsOf(told)
	a := accepting(token, parts[1], parts[2], impl.NumberOf(parts[3]))
	if r.Intn(8) == 0 {
		a.Number++
	}
	return a
}

func someLoad(r *rand.Rand, w impl.World, at int64) impl.Action {
	layer := len(w.Devices[at].Loaded)
	if layer < 3 && r.Intn(6) > 0 {
		return impl.Action{Kind: impl.AcLoad, At: at, Image: someImages(3)[layer]}
	}
	if r.Intn(3) == 0 {
		return impl.Action{Kind: impl.AcLoad, At: at}
	}
	return impl.Action{Kind: impl.AcLoad, At: at, Image: someImage(r)}
}

// someAct mostly leads a device on from its reset: what is not up is started, what runs loads.
func someAct(r *rand.Rand, w impl.World) impl.Action {
	at := r.Int63n(int64(len(w.Devices)))
	d := w.Devices[at]
	cut := pickNumber(r, 100, 100, 100, 100, 5, 4, 3, 2, 1, 0, -1)
	switch n := r.Intn(30); {
	case n == 0, !d.Root.Up && n < 20:
		return impl.Action{Kind: impl.AcRestart, At: at, Number: cut}
	case n == 1, len(d.Loaded) < 2 && n < 20:
		return someLoad(r, w, at)
	case n < 4:
		return impl.Action{Kind: impl.AcNote, At: at, Number: r.Int63n(9), Text: pick(r, "x", "!s", "(hash n1 n1 n101)", "(pair a b)", "")}
	case n < 8:
		return impl.Action{Kind: impl.AcAsk}
	case n < 14:
		return impl.Action{Kind: impl.AcQuote, At: at, Number: pickNumber(r, 255, 255, 255, 255, 7, 0), Text: someNonce(r, w)}
	case n < 22:
		return someShow(r, w)
	case n < 23:
		return impl.Action{Kind: impl.AcTick, Number: pickNumber(r, 0, 1, 2, 5, 9, -1)}
	case n < 27:
		return someAccept(r, w)
	case n < 28:
		return impl.Action{Kind: pickNumber(r, impl.AcRestart, impl.AcLoad, impl.AcNote, impl.AcQuote, 0, 10), At: pickNumber(r, -1, int64(len(w.Devices)), math.MaxInt64)}
	}
	return impl.Action{Kind: impl.AcSteal, Text: pick(r, "!s", "!t", "!v", "!k0", "!k1", "!m", "!root", "x")}
}

// act holds what promise 18 says of one action.
func (w *actWalk) act(t *testing.T, a impl.Action) {
	t.Helper()
	next, told, code := impl.Act(w.world, a)
	if !impl.WorldOk(next) {
		t.Fatal("right no more behind", brief(a), brief(next))
	}
	ahead := len(w.world.Facts)
	if len(next.Facts) < ahead || len(next.Facts) > ahead+1 || !same(next.Facts[:ahead], w.world.Facts) {
		t.Fatal("what happened is changed by", brief(a), brief(next.Facts))
	}
	if code == impl.WoOk {
		w.done++
	} else if told != "" || !same(next, w.world) {
		t.Fatal("refused, and changed", brief(a), told, unlike(next, w.world))
	}
	if added := next.Facts[ahead:]; len(added) == 1 && (code != impl.WoOk || added[0].Kind != a.Kind) {
		t.Fatal("another fact", brief(a), code, brief(added))
	}
	if a.Kind == impl.AcShow && code == impl.WoOk {
		w.reached[[2]int64{100, int64(told[0] - '0')}]++
	}
	w.reached[[2]int64{a.Kind, code}]++
	w.world, w.acts = next, append(w.acts, a)
}

// Promise 18: every action of a right world leaves a right world; what is refused changes nothing that happened; actions in two pieces are the same actions.
func TestActWalks(t *testing.T) {
	r := rand.New(rand.NewSource(91))
	images := someImages(3)
	reached := map[[2]int64]int{}
	for round := range 24 {
		first, ok := impl.WorldNew([]string{"!k0", "!k1", "!k2"}[:1+round%3], images, policyFor(images))
		if !ok {
			t.Fatal("a new world")
		}
		w := actWalk{world: first, reached: reached}
		for range impl.MaxActions {
			w.act(t, someAct(r, w.world))
		}
		expectActs(t, "all at once", first, w.acts, w.world, w.done)
		for range 3 {
			at := r.Intn(len(w.acts) + 1)
			half, one := impl.ActAll(first, w.acts[:at])
			whole, two := impl.ActAll(half, w.acts[at:])
			if !same(whole, w.world) || one+two != w.done {
				t.Error("in two pieces", at, one, two, w.done, unlike(whole, w.world))
			}
		}
	}
	for kind := int64(1); kind <= 9; kind++ {
		if reached[[2]int64{kind, impl.WoOk}] < 20 || reached[[2]int64{kind, impl.WoRefused}] < 5 {
			t.Error("too few of a kind", kind, reached)
		}
	}
	for code := int64(0); code <= 8; code++ {
		if code != impl.VdBad && reached[[2]int64{100, code}] < 3 {
			t.Error("too few of a verdict", code, reached)
		}
	}
}

// Worlds that are right though no action leads there are left as right ones, too.
func TestActsInStrangeWorlds(t *testing.T) {
	done, refused := oneOfEach()
	good := shownBy(aWorld().Devices[0], 255)
	acts := slices.Concat(done, refused, []impl.Action{showing(good), {Kind: impl.AcLoad, At: 0, Image: strange}, {Kind: impl.AcRestart, At: 1, Number: 5}, {Kind: impl.AcQuote, At: 0, Number: 3, Text: "y"}})
	for _, w := range rightWorlds() {
		walk := actWalk{world: w, reached: map[[2]int64]int{}}
		for _, a := range acts {
			walk.act(t, a)
		}
		expectActs(t, "all at once", w, acts, walk.world, walk.done)
	}
}

// A World does not hang on what was handed in once it is made, nor on what was told of it.
func TestWorldsKeepNothing(t *testing.T) {
	keys, images := []string{"!a", "!b"}, someImages(3)
	policy := policyFor(images)
	w, _ := impl.WorldNew(keys, images, policy)
	want := spacious(w)
	scribble(keys)
	scribbleImages(images)
	clear(policy.Rows)
	if !same(w, want) {
		t.Error("the world hangs on its arguments", unlike(w, want))
	}
	a := impl.Action{Kind: impl.AcRestart, Number: 100}
	next, _, _ := impl.Act(w, a)
	again := spacious(next)
	clear(w.Devices)
	scribbleImages(w.Listed)
	if !same(next, again) {
		t.Error("the next world hangs on the one ahead", unlike(next, again))
	}
	if !strings.HasPrefix(next.Devices[0].Name, "d") {
		t.Error(next.Devices)
	}
}
