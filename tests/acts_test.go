package tests

import (
	"math"
	"slices"
	"strconv"
	"testing"

	"loop.example/g00082/impl"
)

// expectAct asks twice for an action: the answer is the one that is wanted, in its own memory, and what was handed in stays as it was.
func expectAct(t *testing.T, what string, w impl.World, a impl.Action, want impl.World, wantTold string, wantCode int64) {
	t.Helper()
	given, action := spacious(w), spacious(a)
	for range 2 {
		got, told, code := impl.Act(given, action)
		if told != wantTold || code != wantCode {
			t.Errorf("%s: %s: got %.200q %d, want %.200q %d", what, brief(a), told, code, wantTold, wantCode)
		}
		if other := unlike(got, want); other != "" {
			t.Errorf("%s: %s: got and want: %s", what, brief(a), other)
		}
		expectOwnMemory(t, what, got, given, action)
	}
	if !sameToTheEnd(given, spacious(w)) || !sameToTheEnd(action, spacious(a)) {
		t.Errorf("%s: %s: an argument was changed: %s", what, brief(a), unlike(given, w))
	}
}

func expectDone(t *testing.T, what string, w impl.World, a impl.Action, want impl.World, wantTold string) {
	t.Helper()
	expectAct(t, what, w, a, want, wantTold, impl.WoOk)
}

func expectBarred(t *testing.T, what string, w impl.World, a impl.Action, wantCode int64) {
	t.Helper()
	expectAct(t, what, w, a, w, "", wantCode)
}

// expectAnyPlace: At means no device here, so the action is the same at any.
func expectAnyPlace(t *testing.T, w impl.World, a impl.Action) {
	t.Helper()
	want, told, code := impl.Act(w, a)
	for _, at := range []int64{-1, 1, 3, math.MinInt64, math.MaxInt64} {
		a.At = at
		expectAct(t, "any place", w, a, want, told, code)
	}
}

// oneOfEach has an action of each kind that is done in aWorld, and one of each that is refused there.
func oneOfEach() (done []impl.Action, refused []impl.Action) {
	done = []impl.Action{
		{Kind: impl.AcRestart, At: 2, Number: 9}, {Kind: impl.AcLoad, At: 1, Image: strange}, {Kind: impl.AcNote, At: 1, Number: 3, Text: "x"}, {Kind: impl.AcAsk},
		{Kind: impl.AcQuote, At: 1, Number: 255, Text: "x"}, {Kind: impl.AcShow, Evidence: impl.Evidence{Nonce: nonceText(8), Quote: "x"}}, {Kind: impl.AcTick, Number: 1},
		{Kind: impl.AcAccept, Number: 1, Text: tokenText("!s", nonceText(5), "dev", 1), Image: impl.Image{Name: "dev"}, Evidence: impl.Evidence{Nonce: nonceText(5)}}, {Kind: impl.AcSteal, Text: "!y"},
	}
	refused = []impl.Action{
		{Kind: impl.AcRestart, At: 2, Number: -1}, {Kind: impl.AcLoad, At: 2, Image: strange}, {Kind: impl.AcNote, At: 0, Number: 3, Text: "x"}, {Kind: impl.AcAsk},
		{Kind: impl.AcQuote, At: 1, Number: 256, Text: "x"}, {Kind: impl.AcShow}, {Kind: impl.AcTick, Number: -1}, {Kind: impl.AcAccept}, {Kind: impl.AcSteal, Text: "y"},
	}
	return done, refused
}

// trusting is aWorld with an issuer whose secret is known to the network.
func trusting() impl.World {
	return withRelying(aWorld(), relyingOf([]string{"(pub !s)", "(pub !v)"}, nonceTexts(5, 8), nonceTexts(1)))
}

func TestActsInWrongWorlds(t *testing.T) {
	done, refused := oneOfEach()
	acts := slices.Concat(done, refused, []impl.Action{{}, {Kind: 10}, {Kind: impl.AcLoad, At: -1}})
	for i, w := range wrongWorlds() {
		for j, a := range acts {
			if (i+j)%13 == 0 {
				expectAct(t, "not right", w, a, impl.World{}, "", impl.WoBad)
			}
		}
	}
	for _, a := range acts {
		expectAct(t, "no world", impl.World{}, a, impl.World{}, "", impl.WoBad)
		expectAct(t, "too many facts", withFacts(trusting(), make([]impl.Fact, impl.MaxFacts+1)...), a, impl.World{}, "", impl.WoBad)
	}
}

func TestOrderOfActCodes(t *testing.T) {
	w := trusting()
	full := withFacts(w, make([]impl.Fact, impl.MaxFacts)...)
	nearly := withFacts(w, make([]impl.Fact, impl.MaxFacts-1)...)
	done, refused := oneOfEach()
	for _, world := range []impl.World{w, full, withDevices(w)} {
		for _, kind := range []int64{0, -1, 10, 11, 77, math.MinInt64, math.MaxInt64} {
			for _, a := range append(slices.Clone(done), impl.Action{At: -1}) {
				a.Kind = kind
				expectBarred(t, "no kind", world, a, impl.WoKind)
			}
		}
	}
	for _, a := range slices.Concat(done, refused) {
		meant := slices.Contains([]int64{impl.AcRestart, impl.AcLoad, impl.AcNote, impl.AcQuote}, a.Kind)
		for _, at := range []int64{-1, 3, 4, math.MinInt64, math.MaxInt64} {
			other := a
			if other.At = at; meant {
				expectBarred(t, "no place", w, other, impl.WoAt)
				expectBarred(t, "no place, and full", full, other, impl.WoAt)
			} else {
				expectBarred(t, "full", full, other, impl.WoFull)
			}
		}
		if meant {
			a.At = 0
			expectBarred(t, "no device at all", withDevices(w), a, impl.WoAt)
			a.At = 2
		}
		expectBarred(t, "full", full, a, impl.WoFull)
	}
	for _, a := range refused {
		if a.Kind != impl.AcAsk {
			expectBarred(t, "refused", w, a, impl.WoRefused)
		}
	}
	for _, a := range done {
		next, _, code := impl.Act(nearly, a)
		facts := impl.MaxFacts
		if a.Kind == impl.AcTick || a.Kind == impl.AcSteal {
			facts--
		}
		if code != impl.WoOk || len(next.Facts) != facts {
			t.Error("room for one more", a, code, len(next.Facts))
		}
	}
}

// restartsOf are devices with the numbers of writes of a reset that ends; all of them have counted 3 boots.
func restartsOf() map[int64][]impl.Device {
	images := someImages(3)
	noted := withVault(upDevice(images, loadsOf(images)), underWay(vaultOf(2, 5), 1, sealAt(5, "!new")))
	quiet := withVault(downDevice(), impl.Vault{})
	return map[int64][]impl.Device{
		4: {quiet, withVault(upDevice(images, loadsOf(images)), vaultOf(2, 5)), withVault(upDevice(nil, nil), vaultOf())},
		5: {noted, withVault(downDevice(), noted.Vault)},
		6: {downDevice(), upDevice(images, among(loadsOf(images)))},
	}
}

func TestActRestart(t *testing.T) {
	for writes, devices := range restartsOf() {
		for at, d := range devices {
			w := withDeviceAt(aWorld(), int64(at), deviceAs(at, d))
			for _, cut := range []int64{0, 1, 2, 3, 4, 5, 6, 7, 100, math.MaxInt64} {
				restarted, _ := impl.Restart(w.Devices[at], cut)
				fact := impl.Fact{Kind: impl.FcRestart, At: int64(at), Number: 3, Good: cut >= writes}
				if cut >= 4 {
					fact.Number = 4
				}
				told := "cut"
				if fact.Good {
					told = "up"
				}
				a := impl.Action{Kind: impl.AcRestart, At: int64(at), Number: cut}
				expectDone(t, "restart", w, a, withFact(withDeviceAt(w, int64(at), restarted), fact), told)
				if restarted.Root.Up != fact.Good || len(restarted.Loaded)+len(restarted.Log) != 0 {
					t.Error("a reset leaves nothing", restarted)
				}
			}
		}
	}
	w := aWorld()
	for at := range int64(3) {
		for _, cut := range []int64{-1, math.MinInt64} {
			expectBarred(t, "no cut", w, impl.Action{Kind: impl.AcRestart, At: at, Number: cut}, impl.WoRefused)
		}
	}
	for _, r := range []impl.Root{downRoot(impl.MaxNumber, 1), downRoot(3, impl.MaxNumber)} {
		end := withDeviceAt(w, 2, deviceAs(2, withRoot(downDevice(), r)))
		for _, cut := range []int64{0, 4, 9} {
			expectBarred(t, "the last boot", end, impl.Action{Kind: impl.AcRestart, At: 2, Number: cut}, impl.WoRefused)
		}
	}
	last := withDeviceAt(w, 2, deviceAs(2, withRoot(downDevice(), downRoot(impl.MaxNumber-1, 1))))
	up, _ := impl.Restart(last.Devices[2], 9)
	expectDone(t, "the last boot but one", last, impl.Action{Kind: impl.AcRestart, At: 2, Number: 9}, withFact(withDeviceAt(last, 2, up), impl.Fact{Kind: impl.FcRestart, At: 2, Number: impl.MaxNumber, Good: true}), "up")
}

func TestActLoad(t *testing.T) {
	listed := append(someImages(3), strange)
	for _, world := range []impl.World{aWorld(), withListed(aWorld(), listed...), withListed(aWorld())} {
		for _, image := range append(someImages(4), strange, impl.Image{Name: "strange", Version: 8}, impl.Image{Name: "n0", Version: 99}, impl.Image{Name: "a"}) {
			for at := range int64(2) {
				d := world.Devices[at]
				want := withRun(d, append(slices.Clone(d.Loaded), image), append(slices.Clone(d.Log), loadOf(3, image)))
				want.Root.Regs = folded(want.Log)
				fact := impl.Fact{Kind: impl.FcLoad, At: at, Images: []impl.Image{image}, Good: slices.Contains(world.Listed, image)}
				expectDone(t, "load", world, impl.Action{Kind: impl.AcLoad, At: at, Image: image}, withFact(withDeviceAt(world, at, want), fact), "")
			}
			expectBarred(t, "not up", world, impl.Action{Kind: impl.AcLoad, At: 2, Image: image}, impl.WoRefused)
		}
	}
	w := aWorld()
	for _, image := range wrongImages() {
		expectBarred(t, "no image", w, impl.Action{Kind: impl.AcLoad, At: 0, Image: image}, impl.WoRefused)
	}
	most := someImages(impl.MaxLayer + 1)
	deep := slices.Repeat([]impl.Event{{Register: 0, Measure: "a"}}, impl.MaxDeep)
	for _, d := range []impl.Device{upDevice(most, loadsOf(most)), upDevice(nil, stepsOf(impl.MaxEvents, inTurn)), upDevice(nil, deep)} {
		full := withDeviceAt(w, 1, deviceAs(1, d))
		expectBarred(t, "full", full, impl.Action{Kind: impl.AcLoad, At: 1, Image: most[0]}, impl.WoRefused)
	}
}

// Other fields of an action than those that its kind asks for say nothing.
func TestActsLookAtTheirFieldsAlone(t *testing.T) {
	more := map[int64]impl.Action{
		impl.AcRestart: {Text: "x", Image: strange, Evidence: impl.Evidence{Nonce: "x"}}, impl.AcLoad: {Number: -7, Text: "A", Evidence: impl.Evidence{Nonce: "x"}},
		impl.AcNote: {Image: strange, Evidence: impl.Evidence{Nonce: "x"}}, impl.AcAsk: {At: -1, Number: -7, Text: "A", Image: strange, Evidence: impl.Evidence{Nonce: "x"}},
		impl.AcQuote: {Image: strange, Evidence: impl.Evidence{Nonce: "y", Mask: 3}}, impl.AcShow: {At: -1, Number: -7, Text: "A", Image: strange},
		impl.AcTick: {At: -1, Text: "A", Image: strange, Evidence: impl.Evidence{Nonce: "x"}}, impl.AcAccept: {At: -1, Image: impl.Image{Version: -7}, Evidence: impl.Evidence{Boots: 5, Quote: "A"}},
		impl.AcSteal: {At: -1, Number: -7, Image: strange, Evidence: impl.Evidence{Nonce: "x"}},
	}
	done, _ := oneOfEach()
	for _, a := range done {
		token := tokenText("!s", nonceText(5), "dev", 1)
		w := withNet(trusting(), withKnown(trusting().Net, token))
		want, told, code := impl.Act(w, a)
		if code != impl.WoOk {
			t.Error("it is done", a, code)
		}
		other, b := more[a.Kind], a
		if other.At != 0 {
			b.At = other.At
		}
		if other.Number != 0 {
			b.Number = other.Number
		}
		if other.Text != "" {
			b.Text = other.Text
		}
		if b.Image.Version = other.Image.Version; b.Image.Name == "" {
			b.Image = other.Image
		}
		if a.Kind == impl.AcLoad {
			b.Image = a.Image
		}
		if a.Kind != impl.AcShow {
			b.Evidence = other.Evidence
			b.Evidence.Nonce = a.Evidence.Nonce + other.Evidence.Nonce
		}
		expectAct(t, "more fields", w, b, want, told, impl.WoOk)
	}
}

func TestActNote(t *testing.T) {
	images := someImages(2)
	for place := range 3 {
		loaded := slices.Insert(slices.Clone(images), place, strange)
		w := withDeviceAt(aWorld(), 1, deviceAs(1, upDevice(loaded, loadsOf(loaded))))
		for reg := range int64(8) {
			for _, term := range []string{"x", "!s", "(hash n3 x n1)", termOf(1000), nested(20, "a")} {
				want := w.Devices[1]
				want.Log = append(slices.Clone(want.Log), impl.Event{Register: reg, Measure: term})
				want.Root.Regs = folded(want.Log)
				fact := impl.Fact{Kind: impl.FcNote, At: 1, Number: reg, Text: term}
				expectDone(t, "note", w, impl.Action{Kind: impl.AcNote, At: 1, Number: reg, Text: term}, withFact(withDeviceAt(w, 1, want), fact), "")
			}
		}
	}
	w := aWorld()
	for _, reg := range []int64{-1, 8, math.MinInt64, math.MaxInt64} {
		expectBarred(t, "no register", w, impl.Action{Kind: impl.AcNote, At: 1, Number: reg, Text: "x"}, impl.WoRefused)
	}
	for _, noTerm := range append(allNoTerms(), termOf(impl.MaxTerm), nested(impl.MaxDeep, "a")) {
		expectBarred(t, "no term, or no hash", w, impl.Action{Kind: impl.AcNote, At: 1, Number: 3, Text: noTerm}, impl.WoRefused)
	}
	note := impl.Action{Kind: impl.AcNote, At: 1, Number: 3, Text: "x"}
	for _, d := range []impl.Device{upDevice(nil, nil), upDevice(images, loadsOf(images)), upDevice(someImages(3), nil), upDevice(nil, loadsOf([]impl.Image{strange})), downDevice(), upDevice([]impl.Image{strange}, stepsOf(impl.MaxEvents, inTurn)), upDevice([]impl.Image{strange}, slices.Repeat([]impl.Event{{Register: 3, Measure: "a"}}, impl.MaxDeep))} {
		expectBarred(t, "who may not, or can't", withDeviceAt(w, 1, deviceAs(1, d)), note, impl.WoRefused)
	}
	expectBarred(t, "all of it is listed", withListed(w, append(someImages(3), strange)...), note, impl.WoRefused)
	near := []impl.Image{{Name: "strange", Version: 8}, {Name: "strang", Version: 7}}
	if _, _, code := impl.Act(withListed(w, append(near, someImages(3)...)...), note); code != impl.WoOk {
		t.Error("another version is listed", code)
	}
	if _, _, code := impl.Act(withListed(w), impl.Action{Kind: impl.AcNote, At: 0, Number: 3, Text: "x"}); code != impl.WoOk {
		t.Error("nothing is listed", code)
	}
}

// asking has a table, what is asked for and a network, to ask with.
func asking(x impl.Table, y impl.Relying, n impl.Net) impl.World {
	return withNet(withRelying(withTable(aWorld(), x), y), n)
}

func TestActAsk(t *testing.T) {
	y, n := aWorld().Relying, aWorld().Net
	nonce := nonceText(90)
	busy := slices.Repeat([]int64{20}, impl.MaxNonces)
	for _, c := range []struct {
		table impl.Table
		left  []impl.Nonce
	}{
		{tableOf(), nil},
		{tableOf(21, 20, 3, 0), tableOf(21, 20, 3, 0).Open[1:]},
		{tableOf(busy[1:]...), tableOf(busy[1:]...).Open},
		{tableOf(append([]int64{21}, busy[1:]...)...), tableOf(append([]int64{21}, busy[1:]...)...).Open[1:]},
		{tableOf(slices.Repeat([]int64{30}, impl.MaxNonces)...), nil},
	} {
		for _, net := range []impl.Net{{}, n, netOf(mostKnown()[1:], mostQueued()[1:]), netOf(append([]string{nonce}, mostKnown()[1:]...), nil), netOf([]string{nonce}, []string{nonce})} {
			for _, relying := range []impl.Relying{{}, y, relyingOf(nil, takenNames(impl.MaxAsked-1), takenNames(impl.MaxTaken))} {
				w := asking(c.table, relying, net)
				next := c.table
				next.Next, next.Open = 91, append(slices.Clone(c.left), impl.Nonce{Number: 90, Born: 100})
				want := withFact(asking(next, withAsked(relying, nonce), sentOn(net, nonce)), impl.Fact{Kind: impl.FcAsk, Number: 100, Text: nonce})
				expectDone(t, "ask", w, impl.Action{Kind: impl.AcAsk}, want, nonce)
			}
		}
	}
	expectAnyPlace(t, aWorld(), impl.Action{Kind: impl.AcAsk})
	w := aWorld()
	w.Verifier.Secret, w.Verifier.Table = "!w", impl.Table{Secret: "!w", Now: 5, Next: impl.MaxNumber - 1}
	_, told, code := impl.Act(w, impl.Action{Kind: impl.AcAsk})
	if told != "(hash !w n999999999)" || code != impl.WoOk {
		t.Error("another secret, the last one", told, code)
	}
}

// A change is made whole or not at all: whatever of the three parts has no room, none is changed.
func TestActAskThatIsRefused(t *testing.T) {
	y, n := aWorld().Relying, aWorld().Net
	nonce := nonceText(90)
	good := tableOf(21, 20, 3, 0)
	tables := []impl.Table{tableOf(slices.Repeat([]int64{20}, impl.MaxNonces)...), withTimesOf(good, 100, impl.MaxNumber)}
	relyings := []impl.Relying{withAsked(y, nonce), relyingOf(y.Issuers, y.Asked, []string{nonce}), relyingOf(y.Issuers, takenNames(impl.MaxAsked), nil)}
	nets := []impl.Net{netOf(n.Known, mostQueued()), netOf(mostKnown(), n.Queue), netOf(mostKnown(), mostQueued()), netOf([]string{nonce}, mostQueued())}
	for _, x := range append(tables, good) {
		for _, relying := range append(relyings, y) {
			for _, net := range append(nets, n) {
				if w := asking(x, relying, net); !same(w, asking(good, y, n)) {
					expectBarred(t, "no room", w, impl.Action{Kind: impl.AcAsk}, impl.WoRefused)
				}
			}
		}
	}
}

func quoteText(d impl.Device, nonce string, mask int64, boots int64) string {
	e := impl.Evidence{Nonce: nonce, Boots: boots, Mask: mask, Shown: chosenBy(d.Root.Regs, mask)}
	return quoted(e, d.Root.Key).Quote
}

func TestActQuote(t *testing.T) {
	w := aWorld()
	nothing := withDeviceAt(w, 0, deviceAs(0, upDevice(nil, idle())))
	for _, world := range []impl.World{w, nothing, withListed(w), withListed(w, append(someImages(3), strange)...)} {
		for at := range int64(2) {
			d := world.Devices[at]
			listed := len(d.Loaded) > 0
			for _, image := range d.Loaded {
				listed = listed && slices.Contains(world.Listed, image)
			}
			for _, nonce := range []string{nonceText(8), nonceText(99), "x", "!s", termOf(1000)} {
				for _, mask := range []int64{1, 6, 128, 254, 255} {
					quote := quoteText(d, nonce, mask, 3)
					fact := impl.Fact{Kind: impl.FcQuote, At: at, Number: 3, Text: nonce, Images: d.Loaded, Good: listed}
					a := impl.Action{Kind: impl.AcQuote, At: at, Number: mask, Text: nonce}
					expectDone(t, "quote", world, a, withFact(withNet(world, sentOn(world.Net, quote)), fact), quote)
				}
			}
		}
	}
	quote := quoteText(w.Devices[0], "x", 255, 3)
	known := append([]string{quote}, takenNames(impl.MaxKnown-1)...)
	again := withNet(w, netOf(known, mostQueued()[1:]))
	expectDone(t, "one that is known", again, impl.Action{Kind: impl.AcQuote, At: 0, Number: 255, Text: "x"}, withFact(withNet(again, withQueued(again.Net, quote)), impl.Fact{Kind: impl.FcQuote, Number: 3, Text: "x", Images: someImages(3), Good: true}), quote)
}

func TestActQuoteThatIsRefused(t *testing.T) {
	w := aWorld()
	for _, mask := range []int64{0, -1, 256, 511, math.MinInt64, math.MaxInt64} {
		expectBarred(t, "no mask", w, impl.Action{Kind: impl.AcQuote, At: 0, Number: mask, Text: "x"}, impl.WoRefused)
	}
	for _, nonce := range append(allNoTerms(), nested(impl.MaxDeep-1, "a"), termOf(impl.MaxTerm)) {
		expectBarred(t, "no nonce", w, impl.Action{Kind: impl.AcQuote, At: 0, Number: 255, Text: nonce}, impl.WoRefused)
	}
	expectBarred(t, "not up", w, impl.Action{Kind: impl.AcQuote, At: 2, Number: 255, Text: "x"}, impl.WoRefused)
	for _, n := range []impl.Net{netOf(nil, mostQueued()), netOf(mostKnown(), nil), netOf(mostKnown(), mostQueued())} {
		expectBarred(t, "no room", withNet(w, n), impl.Action{Kind: impl.AcQuote, At: 0, Number: 255, Text: "x"}, impl.WoRefused)
	}
	deep := withDeviceAt(w, 1, deviceAs(1, upDevice(nil, stepsOf(impl.MaxDeep, inThree))))
	expectBarred(t, "no composite", deep, impl.Action{Kind: impl.AcQuote, At: 1, Number: 255, Text: "x"}, impl.WoRefused)
}

func TestActTick(t *testing.T) {
	w := aWorld()
	for _, ticks := range []int64{0, 1, 20, 21, 100000, impl.MaxNumber - 100} {
		x := w.Verifier.Table
		x.Now += ticks
		expectDone(t, "tick", w, impl.Action{Kind: impl.AcTick, Number: ticks}, withTable(w, x), "")
	}
	for _, ticks := range []int64{-1, -100, impl.MaxNumber - 99, impl.MaxNumber, math.MinInt64, math.MaxInt64} {
		expectBarred(t, "tick", w, impl.Action{Kind: impl.AcTick, Number: ticks}, impl.WoRefused)
	}
	expectAnyPlace(t, w, impl.Action{Kind: impl.AcTick, Number: 3})
}

func accepting(token string, nonce string, name string, boots int64) impl.Action {
	return impl.Action{Kind: impl.AcAccept, Text: token, Number: boots, Image: impl.Image{Name: name}, Evidence: impl.Evidence{Nonce: nonce}}
}

func TestActAccept(t *testing.T) {
	for _, nonce := range nonceTexts(5, 8) {
		for _, name := range []string{"d0", "dev"} {
			for _, boots := range []int64{0, 3, impl.MaxNumber} {
				token := tokenText("!v", nonce, name, boots)
				w := withNet(aWorld(), withKnown(aWorld().Net, token))
				a, fact := accepting(token, nonce, name, boots), impl.Fact{Kind: impl.FcAccept, Number: boots, Text: nonce}
				want := withFact(withRelying(w, withTaken(w.Relying, nonce)), fact)
				expectDone(t, "accept", w, a, want, "")
				expectBarred(t, "a second time", want, a, impl.WoRefused)
				expectAnyPlace(t, w, a)
			}
		}
	}
	// What can be made need not be known: here the secret of an issuer is.
	w := trusting()
	token := tokenText("!s", nonceText(5), "dev", 1)
	expectDone(t, "one that they made", w, accepting(token, nonceText(5), "dev", 1), withFact(withRelying(w, withTaken(w.Relying, nonceText(5))), impl.Fact{Kind: impl.FcAccept, Number: 1, Text: nonceText(5)}), "")
}

func TestActAcceptThatIsRefused(t *testing.T) {
	token := tokenText("!v", nonceText(5), "dev", 3)
	w := withNet(aWorld(), netOf([]string{"!s", nonceText(5), nonceText(8), token}, nil))
	slices.Sort(w.Net.Known)
	full := withRelying(w, relyingOf(w.Relying.Issuers, w.Relying.Asked, takenNames(impl.MaxTaken)))
	for _, c := range []struct {
		what string
		w    impl.World
		a    impl.Action
	}{
		{"nobody can make it", aWorld(), accepting(token, nonceText(5), "dev", 3)},
		{"under way, and not known", withNet(aWorld(), withQueued(aWorld().Net, token)), accepting(token, nonceText(5), "dev", 3)},
		{"no term", w, accepting("", nonceText(5), "dev", 3)},
		{"another nonce", w, accepting(token, nonceText(8), "dev", 3)},
		{"one that is taken", w, accepting(token, nonceText(1), "dev", 3)},
		{"no nonce", w, accepting(token, "", "dev", 3)},
		{"another name", w, accepting(token, nonceText(5), "d0", 3)},
		{"no name", w, accepting(token, nonceText(5), "", 3)},
		{"other boots", w, accepting(token, nonceText(5), "dev", 4)},
		{"no boots", w, accepting(token, nonceText(5), "dev", -1)},
		{"no issuer", w, accepting(tokenText("!s", nonceText(5), "dev", 3), nonceText(5), "dev", 3)},
		{"a name", w, accepting("x", nonceText(5), "dev", 3)},
		{"as many as can be taken", full, accepting(token, nonceText(5), "dev", 3)},
	} {
		expectBarred(t, c.what, c.w, c.a, impl.WoRefused)
	}
	if _, _, code := impl.Act(w, accepting(token, nonceText(5), "dev", 3)); code != impl.WoOk {
		t.Error("but for that it is good", code)
	}
}

func TestActSteal(t *testing.T) {
	w := aWorld()
	for _, secret := range []string{"!a", "!s", "!z", "!k", "!k3", "!k00", "!vv", "!mm", "!roo", "!abcdefghijkl"} {
		expectDone(t, "steal", w, impl.Action{Kind: impl.AcSteal, Text: secret}, withNet(w, withKnown(w.Net, secret)), "")
	}
	for _, secret := range append(slices.Clone(noSecrets), "!v", "!root", "!m", "!k0", "!k1", "!k2", "k0", "(pub !k0)", "x") {
		expectBarred(t, "steal", w, impl.Action{Kind: impl.AcSteal, Text: secret}, impl.WoRefused)
		expectBarred(t, "steal what is known", withNet(w, netOf([]string{"!k0", "!k1", "!k2", "!m", "!root", "!v"}, nil)), impl.Action{Kind: impl.AcSteal, Text: secret}, impl.WoRefused)
	}
	full := withNet(w, netOf(mostKnown(), mostQueued()))
	expectBarred(t, "all that can be known", full, impl.Action{Kind: impl.AcSteal, Text: "!z"}, impl.WoRefused)
	expectDone(t, "one that is known", full, impl.Action{Kind: impl.AcSteal, Text: "!s"}, full, "")
	expectAnyPlace(t, w, impl.Action{Kind: impl.AcSteal, Text: "!z"})
	fewer := withDevices(w, w.Devices[0])
	expectDone(t, "the key of no device", fewer, impl.Action{Kind: impl.AcSteal, Text: "!k1"}, withNet(fewer, withKnown(fewer.Net, "!k1")), "")
	// The document guards !v, whatever the Secret of the Verifier is.
	other := w
	other.Verifier.Secret, other.Verifier.Table.Secret = "!w", "!w"
	expectDone(t, "another verifier's", other, impl.Action{Kind: impl.AcSteal, Text: "!w"}, withNet(other, withKnown(other.Net, "!w")), "")
	expectBarred(t, "another verifier's", other, impl.Action{Kind: impl.AcSteal, Text: "!v"}, impl.WoRefused)
}

func showing(e impl.Evidence) impl.Action {
	return impl.Action{Kind: impl.AcShow, Evidence: e}
}

// shownBy is what a device of aWorld shows for the nonce n8, as the document tells it.
func shownBy(d impl.Device, mask int64) impl.Evidence {
	e := impl.Evidence{Nonce: nonceText(8), Boots: 3, Mask: mask, Shown: chosenBy(d.Root.Regs, mask), Log: logBytes(d.Log), Certs: endorsed(d)}
	return quoted(e, d.Root.Key)
}

// quotedOn is a world whose network knows the Quote of evidence.
func quotedOn(w impl.World, e impl.Evidence) impl.World {
	return withNet(w, withKnown(w.Net, e.Quote))
}

// spentOn is a world whose verifier has spent n8, with a verdict on evidence for it.
func spentOn(w impl.World, e impl.Evidence, v impl.Verdict) impl.World {
	w = withVerifier(w, spentAt(w.Verifier, 2))
	if v.Token != "" {
		w = withNet(w, sentOn(w.Net, v.Token))
	}
	return withFact(w, impl.Fact{Kind: impl.FcVerdict, At: v.Code, Number: e.Boots, Text: e.Nonce, Images: v.Images, Good: v.Code == impl.VdTrusted})
}

func expectShown(t *testing.T, what string, w impl.World, e impl.Evidence, v impl.Verdict) {
	t.Helper()
	expectDone(t, what, w, showing(e), spentOn(w, e, v), strconv.FormatInt(v.Code, 10))
}

func TestActShowWithEachVerdict(t *testing.T) {
	w := aWorld()
	good, other := shownBy(w.Devices[0], 255), shownBy(w.Devices[1], 255)
	there := quotedOn(quotedOn(w, good), other)
	expectShown(t, "trusted", there, good, impl.Verdict{Images: someImages(3), Token: tokenText("!v", nonceText(8), "d0", 3)})
	expectShown(t, "an image that is not listed", there, other, impl.Verdict{Code: impl.VdPolicy, Images: w.Devices[1].Loaded})
	for _, nonce := range append(allNoTerms(), nonceText(2), nonceText(3), nonceText(90), "x") {
		for _, e := range []impl.Evidence{withNonce(good, nonce), {Nonce: nonce, Quote: "x"}, withBoots(withNonce(good, nonce), -5)} {
			expectDone(t, "no open nonce", there, showing(e), there, "2")
		}
	}
	expectShown(t, "no certs", there, withCerts(good), impl.Verdict{Code: impl.VdChain})
	expectShown(t, "turned certs", there, withCerts(good, good.Certs[1], good.Certs[0]), impl.Verdict{Code: impl.VdChain})
	expectShown(t, "another one's certs", there, withCerts(good, other.Certs...), impl.Verdict{Code: impl.VdQuote})
	for _, boots := range []int64{0, 2, 4, -1, math.MinInt64, math.MaxInt64} {
		expectShown(t, "other boots", there, withBoots(good, boots), impl.Verdict{Code: impl.VdQuote})
	}
	expectShown(t, "another quote", there, withQuote(good, other.Quote), impl.Verdict{Code: impl.VdQuote})
	expectShown(t, "a name as quote", there, withQuote(good, "x"), impl.Verdict{Code: impl.VdQuote})
	expectShown(t, "no log", there, withLog(good, nil), impl.Verdict{Code: impl.VdLog})
	expectShown(t, "another log", there, withLog(good, other.Log), impl.Verdict{Code: impl.VdReplay})
	for _, mask := range []int64{1, 7, 254} {
		part := shownBy(w.Devices[0], mask)
		expectShown(t, "a part", quotedOn(w, part), part, impl.Verdict{Code: impl.VdMask})
	}
	nothing := shownBy(deviceAs(0, upDevice(nil, nil)), 255)
	expectShown(t, "nothing loaded", quotedOn(w, nothing), nothing, impl.Verdict{Code: impl.VdPolicy})
	expectAnyPlace(t, there, showing(good))
	expectAnyPlace(t, there, showing(withNonce(good, "x")))
	expectDone(t, "once more", spentOn(there, good, impl.Verdict{Code: 5}), showing(good), spentOn(there, good, impl.Verdict{Code: 5}), "2")
}

func TestActShowOfWhatCanBeMade(t *testing.T) {
	w := aWorld()
	good := shownBy(w.Devices[0], 255)
	trusted := impl.Verdict{Images: someImages(3), Token: tokenText("!v", nonceText(8), "d0", 3)}
	paired := withNet(w, netOf([]string{"!s", "(pair x " + good.Quote + ")", nonceText(8)}, nil))
	sort := func(w impl.World) impl.World {
		slices.Sort(w.Net.Known)
		return w
	}
	expectShown(t, "a quote that is taken out of a pair", sort(paired), good, trusted)
	sealed := withNet(w, netOf([]string{"!s", "(seal (hash !s) " + good.Quote + ")"}, nil))
	expectShown(t, "a quote that is read from a seal", sort(sealed), good, trusted)
	// The log of d0 has a note of a secret, so that its composite can't be made; here all that stands in it are names.
	plain := withNet(withDeviceAt(w, 0, deviceAs(0, upDevice(someImages(3), loadsOf(someImages(3))))), netOf([]string{"!k0", nonceText(8)}, nil))
	expectShown(t, "a quote by who has the key", plain, shownBy(plain.Devices[0], 255), trusted)
	expectBarred(t, "a quote by who has the key alone", withNet(w, plain.Net), showing(good), impl.WoRefused)
	for _, c := range []struct {
		what  string
		w     impl.World
		quote string
	}{
		{"nobody made it", w, good.Quote}, {"under way, and not known", withNet(w, withQueued(w.Net, good.Quote)), good.Quote}, {"of another nonce", quotedOn(w, quoted(withNonce(good, nonceText(5)), "!k0")), good.Quote},
		{"no term", w, ""}, {"no term", w, "A"}, {"a secret", w, "!k0"}, {"a public key", w, "(pub !k0)"}, {"sealed to what is not known", withNet(w, netOf([]string{"(seal !z " + good.Quote + ")"}, nil)), good.Quote},
		{"a hash of it", withNet(w, netOf([]string{"(hash " + good.Quote + ")"}, nil)), good.Quote},
	} {
		for _, nonce := range []string{nonceText(8), nonceText(2), "x"} {
			expectBarred(t, c.what, c.w, showing(withNonce(withQuote(good, c.quote), nonce)), impl.WoRefused)
		}
	}
}

func TestActShowOfCerts(t *testing.T) {
	w := aWorld()
	good, other := shownBy(w.Devices[0], 255), shownBy(w.Devices[1], 255)
	there := quotedOn(w, good)
	maker, device := good.Certs[0], good.Certs[1]
	for n := 1; n <= impl.MaxChain; n++ {
		expectShown(t, "any that are given", there, withCerts(good, slices.Repeat([]impl.Cert{device}, n)...), impl.Verdict{Code: impl.VdChain})
	}
	tooMany := slices.Repeat([]impl.Cert{device}, impl.MaxChain+1)
	for _, nonce := range []string{nonceText(8), "x"} {
		expectBarred(t, "too many", there, showing(withNonce(withCerts(good, tooMany...), nonce)), impl.WoRefused)
		expectBarred(t, "far too many", there, showing(withNonce(withCerts(good, slices.Repeat(tooMany, 100)...), nonce)), impl.WoRefused)
		for _, c := range []impl.Cert{
			{}, withTimes(device, 0, 99), signed(withTimes(device, 0, 99), "!m"), withName(device, "d1"), signed(withName(device, "d1"), "!m"), withKey(device, "(pub !s)"), signed(withKey(device, "(pub !s)"), "!m"), withSign(device, ""), withSign(device, "(sign !s a"),
			certOf("!m", "d3", "(pub !k3)", 0, impl.MaxNumber), certOf("!root", "maker", "(pub !s)", 0, impl.MaxNumber), certOf("!m", "d2", "(pub !k0)", 0, impl.MaxNumber), withSign(device, "!k0"), withSign(device, "(pub !m)"),
		} {
			for at := range 3 {
				certs := slices.Insert(slices.Clone(good.Certs), at, c)
				expectBarred(t, "one that nobody can make", there, showing(withNonce(withCerts(good, certs...), nonce)), impl.WoRefused)
			}
		}
	}
	expectShown(t, "another device's", there, withCerts(good, append(slices.Clone(good.Certs), other.Certs[1])...), impl.Verdict{Code: impl.VdChain})
	public := withNet(there, withKnown(withKnown(there.Net, "(pub !k0)"), "(pub !m)"))
	for _, c := range []impl.Cert{withSign(impl.Cert{}, "x"), withSign(withTimes(device, 0, 99), nonceText(8)), certOf("!s", "d0", "(pub !k0)", 0, impl.MaxNumber), certOf("!s", "maker", "(pub !m)", 0, impl.MaxNumber), certOf("!s", "d0", "(pub !s)", 0, 7)} {
		expectShown(t, "a forged one", public, withCerts(good, maker, c), impl.Verdict{Code: impl.VdChain})
		expectShown(t, "a forged one", public, withCerts(good, c, device), impl.Verdict{Code: impl.VdChain})
	}
	expectBarred(t, "a forged one for a key that is not known", there, showing(withCerts(good, maker, certOf("!s", "d0", "(pub !k0)", 0, impl.MaxNumber))), impl.WoRefused)
	short := signed(withTimes(device, 0, 100), "!m")
	expectBarred(t, "one that somebody made", there, showing(withCerts(good, maker, short)), impl.WoRefused)
	known := withNet(there, withKnown(there.Net, short.Sign))
	expectShown(t, "one that somebody made, and is known", known, withCerts(good, maker, short), impl.Verdict{Images: someImages(3), Token: tokenText("!v", nonceText(8), "d0", 3)})
}

// With a Token that can't be sent nothing happens, and so the nonce is good still.
func TestActShowWithoutRoomForTheToken(t *testing.T) {
	w := aWorld()
	good, other := shownBy(w.Devices[0], 255), shownBy(w.Devices[1], 255)
	token := tokenText("!v", nonceText(8), "d0", 3)
	knownWith := func(terms ...string) []string {
		known := append(terms, takenNames(impl.MaxKnown-len(terms))...)
		slices.Sort(known)
		return known
	}
	for _, n := range []impl.Net{netOf([]string{good.Quote}, mostQueued()), netOf(knownWith(good.Quote), nil), netOf(knownWith(good.Quote, other.Quote), mostQueued())} {
		full := withNet(w, n)
		expectBarred(t, "no room", full, showing(good), impl.WoRefused)
		expectShown(t, "no token", full, withBoots(good, 7), impl.Verdict{Code: impl.VdQuote})
		expectDone(t, "no nonce", full, showing(withNonce(good, "x")), full, "2")
	}
	both := withNet(w, netOf(knownWith(good.Quote, token), mostQueued()[1:]))
	expectShown(t, "a token that is known", both, good, impl.Verdict{Images: someImages(3), Token: token})
	knows := withNet(w, netOf(knownWith(good.Quote, token), mostQueued()))
	expectBarred(t, "a token that is known, and a full queue", knows, showing(good), impl.WoRefused)
}
