package tests

import (
	"fmt"
	"math"
	"math/rand"
	"slices"
	"testing"

	"loop.example/g00082/impl"
)

// expectFound asks an audit twice: the place is the one that is wanted, and the facts stay as they were.
func expectFound(t *testing.T, what string, ask func([]impl.Fact) int64, facts []impl.Fact, want int64) {
	t.Helper()
	given := spacious(facts)
	for range 2 {
		if got := ask(given); got != want {
			t.Errorf("%s: %d facts, %s: got %d, want %d", what, len(facts), brief(facts), got, want)
		}
	}
	if !sameToTheEnd(given, spacious(facts)) {
		t.Errorf("%s: the facts were changed: %s", what, unlike(given, facts))
	}
}

// expectBacked is expectFound of BackedAt, of which what is listed stays, too.
func expectBacked(t *testing.T, what string, facts []impl.Fact, listed []impl.Image, want int64) {
	t.Helper()
	given := spacious(listed)
	expectFound(t, what, func(facts []impl.Fact) int64 { return impl.BackedAt(facts, given) }, facts, want)
	if !sameToTheEnd(given, spacious(listed)) {
		t.Errorf("%s: what is listed was changed: %v", what, given)
	}
}

func backedBy(listed []impl.Image) func([]impl.Fact) int64 {
	return func(facts []impl.Fact) int64 { return impl.BackedAt(facts, listed) }
}

func askFact(text string) impl.Fact {
	return impl.Fact{Kind: impl.FcAsk, Number: 7, Text: text}
}

func quoteFact(at int64, number int64, text string, images ...impl.Image) impl.Fact {
	return impl.Fact{Kind: impl.FcQuote, At: at, Number: number, Text: text, Images: images, Good: true}
}

// goodFact is a good verdict.
func goodFact(number int64, text string, images ...impl.Image) impl.Fact {
	return impl.Fact{Kind: impl.FcVerdict, Number: number, Text: text, Images: images, Good: true}
}

func refusedFact(code int64, number int64, text string, images ...impl.Image) impl.Fact {
	return impl.Fact{Kind: impl.FcVerdict, At: code, Number: number, Text: text, Images: images}
}

func acceptFact(number int64, text string) impl.Fact {
	return impl.Fact{Kind: impl.FcAccept, Number: number, Text: text}
}

func resetFact(at int64, good bool) impl.Fact {
	return impl.Fact{Kind: impl.FcRestart, At: at, Number: 5, Good: good}
}

// ofKinds has one of each kind, all with this text, a listed image, and good.
func ofKinds(text string, kinds ...int64) []impl.Fact {
	var facts []impl.Fact
	for _, kind := range kinds {
		facts = append(facts, impl.Fact{Kind: kind, Number: 1, Text: text, Images: someImages(1), Good: true})
	}
	return facts
}

// strangeKinds are told nowhere.
var strangeKinds = []int64{0, 7, 9, 10, -1, -6, 255, math.MinInt64, math.MaxInt64}

// An auditCase is an audit with all that it asks about, and a list with the last of which alone something is wrong.
type auditCase struct {
	name   string
	ask    func([]impl.Fact) int64
	kinds  []int64
	faulty []impl.Fact
}

func auditCases() []auditCase {
	return []auditCase{
		{"TwiceAt", impl.TwiceAt, []int64{impl.FcVerdict}, []impl.Fact{refusedFact(8, 1, "x"), goodFact(2, "x")}},
		{"BackedAt", backedBy(someImages(2)), []int64{impl.FcVerdict}, []impl.Fact{goodFact(1, "x", someImages(2)...)}},
		{"RisingAt", impl.RisingAt, []int64{impl.FcQuote}, []impl.Fact{quoteFact(0, 2, "x"), quoteFact(0, 1, "y")}},
		{"AcceptedAt", impl.AcceptedAt, []int64{impl.FcAccept}, []impl.Fact{acceptFact(1, "x")}},
		{"AskedAt", impl.AskedAt, []int64{impl.FcVerdict, impl.FcAccept}, []impl.Fact{refusedFact(3, 1, "x")}},
	}
}

// padded has so many facts with which no audit finds anything wrong: ones of strange kinds, and notes.
func padded(many int) []impl.Fact {
	var facts []impl.Fact
	for i := range many {
		f := impl.Fact{Kind: impl.FcNote, At: int64(i % 3), Number: int64(i % 8), Text: "x"}
		if i%2 == 1 {
			f.Kind = strangeKinds[i/2%len(strangeKinds)]
		}
		facts = append(facts, f)
	}
	return facts
}

func TestAuditsOfFactsThatAreFine(t *testing.T) {
	for _, c := range auditCases() {
		expectFound(t, c.name+" of nothing", c.ask, nil, -1)
		expectFound(t, c.name+" of nothing", c.ask, []impl.Fact{}, -1)
		others := slices.Concat(strangeKinds, []int64{1, 2, 3, 4, 5, 6, 8})
		others = slices.DeleteFunc(others, func(kind int64) bool { return slices.Contains(c.kinds, kind) })
		expectFound(t, c.name+" of other kinds", c.ask, ofKinds("x", append(others, others...)...), -1)
		for _, many := range []int{1, 7, impl.MaxFacts - 1, impl.MaxFacts, impl.MaxFacts + 1, 2 * impl.MaxFacts} {
			expectFound(t, c.name+" of what it does not ask about", c.ask, padded(many), -1)
		}
		for _, kind := range others {
			expectFound(t, c.name+" of another kind", c.ask, slices.Repeat(ofKinds("", kind), 3), -1)
		}
	}
}

func TestAuditsFindTheFirstFault(t *testing.T) {
	for _, c := range auditCases() {
		last := len(c.faulty) - 1
		expectFound(t, c.name+" of a fault", c.ask, c.faulty, int64(last))
		expectFound(t, c.name+" of two", c.ask, slices.Repeat(c.faulty, 2), int64(last))
		for _, many := range []int{1, 2, 20, impl.MaxFacts - last - 1} {
			between := slices.Concat(c.faulty[:last], padded(many), c.faulty[last:])
			expectFound(t, c.name+" of a fault at the end", c.ask, between, int64(last+many))
			expectFound(t, c.name+" of a fault ahead of others", c.ask, append(slices.Clone(c.faulty), padded(many)...), int64(last))
			expectFound(t, c.name+" of a fault behind others", c.ask, append(padded(many), c.faulty...), int64(many+last))
		}
		expectFound(t, c.name+" of faults alone", c.ask, slices.Repeat(c.faulty, impl.MaxFacts/len(c.faulty)), int64(last))
	}
}

func TestAuditsOfTooManyFacts(t *testing.T) {
	for _, c := range auditCases() {
		last := len(c.faulty) - 1
		room := impl.MaxFacts - len(c.faulty)
		for _, many := range []int{room, room + 1, room + 2, 5 * impl.MaxFacts} {
			ahead, behind := int64(last), int64(many+last)
			if many > room {
				ahead, behind = -1, -1
			}
			expectFound(t, c.name+" at the limit", c.ask, append(slices.Clone(c.faulty), padded(many)...), ahead)
			expectFound(t, c.name+" at the limit", c.ask, append(padded(many), c.faulty...), behind)
		}
		expectFound(t, c.name+" of too many faults", c.ask, slices.Repeat(c.faulty, impl.MaxFacts+1), -1)
	}
}

func TestTwiceAt(t *testing.T) {
	good, bad := goodFact(1, "x"), refusedFact(8, 1, "x")
	for _, pair := range [][]impl.Fact{{good, good}, {good, bad}, {bad, good}, {bad, bad}, {bad, refusedFact(3, -9, "x", strange)}, {goodFact(-1, "x", strange), goodFact(2, "x")}, {refusedFact(-1, 0, ""), goodFact(0, "")}} {
		expectFound(t, "twice", impl.TwiceAt, pair, 1)
		expectFound(t, "with another text between", impl.TwiceAt, []impl.Fact{pair[0], goodFact(1, "y"), refusedFact(2, 1, "z"), pair[1], pair[1]}, 3)
	}
	expectFound(t, "unlike texts", impl.TwiceAt, []impl.Fact{goodFact(1, "x"), goodFact(1, "y"), goodFact(1, ""), goodFact(1, "X"), goodFact(1, "x "), goodFact(1, "xx")}, -1)
	expectFound(t, "one text of many kinds", impl.TwiceAt, append(ofKinds("x", slices.Concat(strangeKinds, []int64{1, 2, 3, 4, 5, 8})...), good), -1)
	expectFound(t, "one text of many kinds behind", impl.TwiceAt, append([]impl.Fact{good}, ofKinds("x", slices.Concat(strangeKinds, []int64{1, 2, 3, 4, 5, 8})...)...), -1)
	expectFound(t, "two texts, the second one again first", impl.TwiceAt, []impl.Fact{goodFact(1, "x"), goodFact(1, "y"), goodFact(1, "y"), goodFact(1, "x")}, 2)
}

func TestBackedAt(t *testing.T) {
	im := someImages(3)
	quote, verdict := quoteFact(1, 4, "x", im...), goodFact(4, "x", im...)
	expectBacked(t, "a quote ahead", []impl.Fact{quote, verdict}, im, -1)
	expectBacked(t, "and one for two", []impl.Fact{quote, verdict, verdict}, im, -1)
	expectBacked(t, "a quote behind", []impl.Fact{verdict, quote}, im, 0)
	expectBacked(t, "none", []impl.Fact{askFact("x"), verdict}, im, 1)
	expectBacked(t, "the second one", []impl.Fact{quote, verdict, goodFact(5, "x", im...)}, im, 2)
	notGood := quote
	notGood.Good = false
	expectBacked(t, "a quote that is not good", []impl.Fact{notGood, verdict}, im, -1)
	for _, at := range []int64{0, 7, -3, math.MinInt64} {
		expectBacked(t, "of any device", []impl.Fact{quoteFact(at, 4, "x", im...), verdict}, im, -1)
	}
	for _, other := range []impl.Fact{
		quoteFact(1, 4, "y", im...), quoteFact(1, 4, "", im...), quoteFact(1, 3, "x", im...), quoteFact(1, 5, "x", im...), quoteFact(1, -4, "x", im...),
		quoteFact(1, 4, "x"), quoteFact(1, 4, "x", im[:2]...), quoteFact(1, 4, "x", im[1:]...), quoteFact(1, 4, "x", append(im[:3:3], im[0])...),
		quoteFact(1, 4, "x", im[1], im[0], im[2]), quoteFact(1, 4, "x", im[0], im[2], im[1]), quoteFact(1, 4, "x", im[0], im[1], strange), quoteFact(1, 4, "x", impl.Image{Name: im[0].Name, Version: 9}, im[1], im[2]),
	} {
		expectBacked(t, "another quote", []impl.Fact{other, verdict}, im, 1)
		expectBacked(t, "another quote, and this one", []impl.Fact{other, quote, verdict}, im, -1)
	}
	for _, kind := range slices.Concat(strangeKinds, []int64{1, 2, 3, 4, 8}) {
		other := quote
		other.Kind = kind
		expectBacked(t, "no quote", []impl.Fact{other, verdict}, im, 1)
		other = verdict
		other.Kind = kind
		expectBacked(t, "no verdict", []impl.Fact{other}, im, -1)
	}
	expectBacked(t, "numbers below 0", []impl.Fact{quoteFact(0, -1, "", im[0]), goodFact(-1, "", im[0]), goodFact(-2, "", im[0])}, im, 2)
}

// Nothing is asked of a verdict that is not good, that is on nothing, or on something that is not listed.
func TestBackedAtOfWhatItDoesNotAskAbout(t *testing.T) {
	im := someImages(3)
	unbacked := goodFact(4, "x", im...)
	for _, listed := range [][]impl.Image{nil, {}, im[:2], im[1:], {im[0], im[2]}, {strange}, {{Name: im[0].Name, Version: 9}, im[1], im[2]}, {{Name: "a", Version: im[0].Version}, im[1], im[2]}} {
		expectBacked(t, "not all listed", []impl.Fact{unbacked}, listed, -1)
		expectBacked(t, "nothing loaded", []impl.Fact{goodFact(4, "x")}, listed, -1)
	}
	for _, listed := range [][]impl.Image{im, {im[2], im[0], im[1]}, append(im[:3:3], strange), append(im[:3:3], im...), append([]impl.Image{{}, {Name: "A", Version: -1}}, im...)} {
		expectBacked(t, "all listed", []impl.Fact{unbacked}, listed, 0)
		expectBacked(t, "one image twice", []impl.Fact{goodFact(4, "x", im[1], im[1])}, listed, 0)
		expectBacked(t, "nothing loaded", []impl.Fact{goodFact(4, "x"), goodFact(0, "")}, listed, -1)
		expectBacked(t, "not good", []impl.Fact{refusedFact(0, 4, "x", im...), refusedFact(8, 4, "x", im...)}, listed, -1)
		expectBacked(t, "behind ones that are not asked about", []impl.Fact{goodFact(4, "x"), refusedFact(8, 4, "x", im...), goodFact(4, "x", im[0], impl.Image{Name: "other"}), unbacked}, listed, 3)
	}
	wrong := impl.Image{Name: "A", Version: -1}
	expectBacked(t, "images that are none", []impl.Fact{goodFact(1, "x", wrong)}, []impl.Image{wrong}, 0)
	expectBacked(t, "images that are none", []impl.Fact{quoteFact(0, 1, "x", wrong), goodFact(1, "x", wrong)}, []impl.Image{wrong}, -1)
}

func TestRisingAt(t *testing.T) {
	up, cut, other := resetFact(0, true), resetFact(0, false), resetFact(1, true)
	q := func(number int64) impl.Fact { return quoteFact(0, number, "x") }
	for _, c := range []struct {
		what  string
		facts []impl.Fact
		want  int64
	}{
		{"equal", []impl.Fact{q(3), q(3), q(3)}, -1},
		{"above", []impl.Fact{q(3), q(4), q(9)}, -1},
		{"below", []impl.Fact{q(3), q(2)}, 1},
		{"below 0", []impl.Fact{q(-3), q(-2), q(-4)}, 2},
		{"the ends", []impl.Fact{q(math.MinInt64), q(math.MaxInt64), q(math.MinInt64)}, 2},
		{"equal behind a restart", []impl.Fact{q(3), up, q(3)}, 2},
		{"above behind a restart", []impl.Fact{q(3), up, q(4), q(4), up, q(5)}, -1},
		{"below behind a restart", []impl.Fact{q(3), up, q(2)}, 2},
		{"equal behind one that was cut", []impl.Fact{q(3), cut, q(3)}, -1},
		{"below behind one that was cut", []impl.Fact{q(3), cut, q(2)}, 2},
		{"equal behind one of another device", []impl.Fact{q(3), other, q(3)}, -1},
		{"below behind one of another device", []impl.Fact{q(3), other, q(2)}, 2},
		{"equal behind one that was cut and one of another device", []impl.Fact{q(3), cut, other, cut, q(3)}, -1},
		{"equal behind one that was cut and one that was not", []impl.Fact{q(3), cut, up, cut, other, q(3)}, 5},
		{"a restart ahead of both", []impl.Fact{up, q(3), q(3)}, -1},
		{"a restart behind both", []impl.Fact{q(3), q(3), up}, -1},
		{"a restart between others", []impl.Fact{q(2), up, q(3), q(3)}, -1},
		{"a greater one between", []impl.Fact{q(3), q(5), q(3)}, 2},
		{"a greater one between, less than that", []impl.Fact{q(3), q(5), q(4)}, 2},
		{"a greater one between, as great as that", []impl.Fact{q(3), q(5), q(5)}, -1},
		{"the restart behind the second of three", []impl.Fact{q(3), q(3), up, q(3)}, 3},
		{"the restart ahead of the second of three", []impl.Fact{q(3), up, q(4), q(4)}, -1},
		{"the first of two faults", []impl.Fact{q(3), q(2), up, q(2)}, 1},
		{"the fault behind a fault", []impl.Fact{q(3), q(4), q(3), q(5), q(2)}, 2},
		{"other devices", []impl.Fact{q(3), quoteFact(1, 2, "x"), quoteFact(2, 1, "x"), quoteFact(-1, 0, "x"), quoteFact(math.MaxInt64, -7, "x")}, -1},
		{"other devices behind a restart", []impl.Fact{quoteFact(1, 3, "x"), up, quoteFact(1, 3, "x"), q(1)}, -1},
		{"a device below 0", []impl.Fact{quoteFact(-2, 3, "x"), resetFact(-2, true), quoteFact(-2, 3, "x")}, 2},
		{"another text and other images", []impl.Fact{quoteFact(0, 3, "x", strange), quoteFact(0, 2, "y")}, 1},
		{"a quote that is not good", []impl.Fact{{Kind: impl.FcQuote, Number: 3}, up, {Kind: impl.FcQuote, Number: 3}}, 2},
	} {
		expectFound(t, c.what, impl.RisingAt, c.facts, c.want)
	}
	for _, kind := range slices.Concat(strangeKinds, []int64{2, 3, 4, 5, 6, 8}) {
		between := up
		between.Kind, between.Number = kind, 3
		expectFound(t, "no restart between", impl.RisingAt, []impl.Fact{q(3), between, q(3)}, -1)
		if kind != impl.FcQuote {
			between.Number = 9
			expectFound(t, "no quote ahead", impl.RisingAt, []impl.Fact{between, q(3)}, -1)
			expectFound(t, "no quote behind", impl.RisingAt, []impl.Fact{q(3), up, {Kind: kind, Number: 1}}, -1)
		}
	}
}

func TestAcceptedAt(t *testing.T) {
	good, accept := goodFact(4, "x", strange), acceptFact(4, "x")
	for _, c := range []struct {
		what  string
		facts []impl.Fact
		want  int64
	}{
		{"found good", []impl.Fact{good, accept}, -1},
		{"found good, behind", []impl.Fact{accept, good}, 0},
		{"not found", []impl.Fact{askFact("x"), accept}, 1},
		{"found, and not good", []impl.Fact{refusedFact(0, 4, "x"), accept}, 1},
		{"found, and not good, and good", []impl.Fact{refusedFact(8, 4, "x"), good, accept}, -1},
		{"another number", []impl.Fact{goodFact(3, "x"), goodFact(5, "x"), accept}, 2},
		{"another number, and this one", []impl.Fact{goodFact(3, "x"), good, goodFact(5, "x"), accept}, -1},
		{"another text", []impl.Fact{goodFact(4, "y"), goodFact(4, ""), accept}, 2},
		{"twice", []impl.Fact{good, accept, accept}, 2},
		{"twice, with a verdict between", []impl.Fact{good, accept, good, accept}, 3},
		{"twice, with another number", []impl.Fact{good, goodFact(5, "x"), accept, acceptFact(5, "x")}, 3},
		{"two texts", []impl.Fact{good, goodFact(4, "y"), accept, acceptFact(4, "y")}, -1},
		{"two texts, one of them twice", []impl.Fact{good, goodFact(4, "y"), acceptFact(4, "y"), accept, acceptFact(4, "y")}, 4},
		{"no text", []impl.Fact{goodFact(0, ""), acceptFact(0, ""), acceptFact(0, "")}, 2},
		{"a number below 0", []impl.Fact{goodFact(-4, "x"), acceptFact(-4, "x"), goodFact(4, "y"), acceptFact(-4, "y")}, 3},
		{"the first of two faults, the second kind first", []impl.Fact{good, accept, acceptFact(1, "z"), accept}, 2},
		{"another At, and Images", []impl.Fact{{Kind: impl.FcVerdict, At: 9, Number: 4, Text: "x", Good: true}, {Kind: impl.FcAccept, At: 3, Number: 4, Text: "x", Images: someImages(2), Good: true}}, -1},
	} {
		expectFound(t, c.what, impl.AcceptedAt, c.facts, c.want)
	}
	for _, kind := range slices.Concat(strangeKinds, []int64{1, 2, 3, 4, 5, 8}) {
		other := good
		other.Kind = kind
		want := int64(1)
		if kind == impl.FcAccept {
			want = 0
		}
		expectFound(t, "no verdict", impl.AcceptedAt, []impl.Fact{other, accept}, want)
	}
}

func TestAskedAt(t *testing.T) {
	ask := askFact("x")
	for _, f := range []impl.Fact{goodFact(1, "x"), refusedFact(8, 1, "x"), acceptFact(1, "x"), {Kind: impl.FcVerdict, At: -1, Number: -1, Text: "x"}} {
		expectFound(t, "asked", impl.AskedAt, []impl.Fact{ask, f, f}, -1)
		expectFound(t, "asked behind", impl.AskedAt, []impl.Fact{f, ask}, 0)
		expectFound(t, "asked between", impl.AskedAt, []impl.Fact{askFact("y"), f, ask, f}, 1)
		expectFound(t, "not asked", impl.AskedAt, []impl.Fact{askFact("y"), askFact(""), askFact("xx"), f}, 3)
		other := f
		other.Text = ""
		expectFound(t, "no text", impl.AskedAt, []impl.Fact{ask, f, other}, 2)
		expectFound(t, "no text is asked for", impl.AskedAt, []impl.Fact{ask, f, askFact(""), other}, -1)
		for _, kind := range slices.Concat(strangeKinds, []int64{1, 2, 3, 5, 6, 8}) {
			want := int64(1)
			if kind == impl.FcVerdict || kind == impl.FcAccept {
				want = 0
			}
			expectFound(t, "no asking", impl.AskedAt, append(ofKinds("x", kind), f), want)
		}
	}
	for _, kind := range slices.Concat(strangeKinds, []int64{1, 2, 3, 4, 5}) {
		expectFound(t, "nothing that is asked for", impl.AskedAt, ofKinds("x", kind), -1)
	}
	whatever := impl.Fact{Kind: impl.FcAsk, At: -7, Number: -1, Text: "x", Images: someImages(1), Good: true}
	expectFound(t, "whatever else stands in it", impl.AskedAt, []impl.Fact{whatever, goodFact(1, "x"), acceptFact(2, "x"), acceptFact(2, "z")}, 3)
}

func expectCounts(t *testing.T, what string, facts []impl.Fact, want ...int64) {
	t.Helper()
	given := spacious(facts)
	for range 2 {
		got := impl.Counts(given)
		if !slices.Equal(got, want) {
			t.Errorf("%s: got %d, want %d", what, got, want)
		}
		expectOwnMemory(t, what, got, given)
		scribbleNumbers(got)
	}
	if !sameToTheEnd(given, spacious(facts)) {
		t.Errorf("%s: the facts were changed: %s", what, unlike(given, facts))
	}
}

func TestCounts(t *testing.T) {
	expectCounts(t, "nothing", nil, 0, 0, 0, 0, 0, 0, 0, 0)
	expectCounts(t, "nothing", []impl.Fact{}, 0, 0, 0, 0, 0, 0, 0, 0)
	for kind := int64(1); kind <= 8; kind++ {
		want := make([]int64, 8)
		want[kind-1] = 3
		expectCounts(t, "one kind", slices.Repeat(ofKinds("x", kind), 3), want...)
	}
	expectCounts(t, "each kind", ofKinds("", 8, 7, 6, 5, 4, 3, 2, 1, 1, 8), 2, 1, 1, 1, 1, 1, 1, 2)
	expectCounts(t, "no kinds", ofKinds("x", 0, 9, -1, 10, -8, 255, math.MinInt64, math.MaxInt64), 0, 0, 0, 0, 0, 0, 0, 0)
	expectCounts(t, "some that are none", ofKinds("x", 0, 7, 9, -1, 5, 7), 0, 0, 0, 0, 1, 0, 2, 0)
	for _, many := range []int{impl.MaxFacts - 1, impl.MaxFacts, impl.MaxFacts + 1, 7 * impl.MaxFacts} {
		expectCounts(t, "many", slices.Repeat(ofKinds("x", 2), many), 0, int64(many), 0, 0, 0, 0, 0, 0)
		expectCounts(t, "many, and another one", append(slices.Repeat(ofKinds("x", 6), many-1), impl.Fact{Kind: 8}), 0, 0, 0, 0, 0, int64(many-1), 0, 1)
	}
}

func expectStory(t *testing.T, what string, facts []impl.Fact, nonce string, want ...int64) {
	t.Helper()
	given := spacious(facts)
	for range 2 {
		got := impl.Story(given, nonce)
		expectPlaces(t, what, got, want...)
		expectOwnMemory(t, what, got, given)
		scribbleNumbers(got)
	}
	if !sameToTheEnd(given, spacious(facts)) {
		t.Errorf("%s: the facts were changed: %s", what, unlike(given, facts))
	}
}

func TestStory(t *testing.T) {
	facts := append(ofKinds("x", slices.Concat(strangeKinds, []int64{1, 2, 3, 4, 5, 6, 8})...), askFact("y"), askFact(""), goodFact(1, "X"), acceptFact(1, "x"))
	var all []int64
	for at, f := range facts {
		if f.Text == "x" {
			all = append(all, int64(at))
		}
	}
	if len(all) != len(facts)-3 {
		t.Fatal("places", all)
	}
	expectStory(t, "all kinds", facts, "x", all...)
	expectStory(t, "one", facts, "y", int64(len(facts)-4))
	expectStory(t, "no text", facts, "", int64(len(facts)-3))
	for _, nonce := range []string{"z", "xx", " x", "(hash !v n0)", "\x00"} {
		expectStory(t, "a text that none has", facts, nonce)
		expectStory(t, "nothing", nil, nonce)
	}
	expectStory(t, "of nothing no text", nil, "")
	expectStory(t, "no term", []impl.Fact{{Text: "A b"}, {Text: "A"}, {Text: "A b"}}, "A b", 0, 2)
	expectStory(t, "facts without texts", make([]impl.Fact, 3), "", 0, 1, 2)
	for _, many := range []int{1, impl.MaxFacts - 1, impl.MaxFacts, impl.MaxFacts + 1, 3 * impl.MaxFacts} {
		var want []int64
		for at := range many {
			want = append(want, int64(at))
		}
		if many > impl.MaxFacts {
			want = nil
		}
		expectStory(t, "many", slices.Repeat(ofKinds("x", 4), many), "x", want...)
		expectStory(t, "many, another text", slices.Repeat(ofKinds("x", 4), many), "y")
		expectStory(t, "many without texts", make([]impl.Fact, many), "", want...)
	}
}

// backing is what a quote has of a verdict that it backs.
func backing(f impl.Fact) string {
	return fmt.Sprintf("%q %d %q", f.Text, f.Number, fmt.Sprint(f.Images))
}

// auditsOf are the answers of the five audits, as the document tells them, in one walk from the first fact on.
func auditsOf(facts []impl.Fact, listed []impl.Image) [5]int64 {
	wrong := [5]int64{-1, -1, -1, -1, -1}
	if len(facts) > impl.MaxFacts {
		return wrong
	}
	judged, taken, asked, quotes, good := map[string]bool{}, map[string]bool{}, map[string]bool{}, map[string]bool{}, map[string]bool{}
	most, before := map[int64]int64{}, map[int64]int64{} // of each device the greatest number of a quote, and that ahead of its last restart
	at := int64(0)
	tell := func(audit int, holds bool) {
		if !holds && wrong[audit] == -1 {
			wrong[audit] = at
		}
	}
	for i, f := range facts {
		at = int64(i)
		switch f.Kind {
		case impl.FcRestart:
			if number, ok := most[f.At]; ok && f.Good {
				before[f.At] = number
			}
		case impl.FcAsk:
			asked[f.Text] = true
		case impl.FcQuote:
			quotes[backing(f)] = true
			last, quoted := most[f.At]
			least, anew := before[f.At]
			tell(2, (!quoted || f.Number >= last) && (!anew || f.Number > least))
			most[f.At] = f.Number
			if quoted {
				most[f.At] = max(f.Number, last)
			}
		case impl.FcVerdict:
			tell(0, !judged[f.Text])
			unlisted := slices.ContainsFunc(f.Images, func(image impl.Image) bool { return !slices.Contains(listed, image) })
			tell(1, !f.Good || len(f.Images) == 0 || unlisted || quotes[backing(f)])
			tell(4, asked[f.Text])
			judged[f.Text] = true
			if f.Good {
				good[fmt.Sprintf("%q %d", f.Text, f.Number)] = true
			}
		case impl.FcAccept:
			tell(3, !taken[f.Text] && good[fmt.Sprintf("%q %d", f.Text, f.Number)])
			tell(4, asked[f.Text])
			taken[f.Text] = true
		}
	}
	return wrong
}

func expectAudits(t *testing.T, what string, facts []impl.Fact, listed []impl.Image, want [5]int64) {
	t.Helper()
	got := [5]int64{impl.TwiceAt(facts), impl.BackedAt(facts, listed), impl.RisingAt(facts), impl.AcceptedAt(facts), impl.AskedAt(facts)}
	if got != want {
		t.Errorf("%s: got %d, want %d: %d facts, %s", what, got, want, len(facts), brief(facts))
	}
}

func someFact(r *rand.Rand) impl.Fact {
	f := impl.Fact{Kind: r.Int63n(10), At: r.Int63n(2), Number: r.Int63n(3) - 1, Text: pick(r, "", "x", "y"), Good: r.Intn(3) > 0}
	if r.Intn(20) == 0 {
		f.Kind = strangeKinds[r.Intn(len(strangeKinds))]
	}
	for range r.Intn(3) {
		f.Images = append(f.Images, append(someImages(2), strange)[r.Intn(3)])
	}
	return f
}

func TestAuditsOfSomeFacts(t *testing.T) {
	r := rand.New(rand.NewSource(101))
	places := [5]map[int64]int{{}, {}, {}, {}, {}}
	for range 30000 {
		var facts []impl.Fact
		for range r.Intn(12) {
			facts = append(facts, someFact(r))
		}
		listed := slices.Clone([][]impl.Image{nil, someImages(1), someImages(2), append(someImages(2), strange)}[r.Intn(4)])
		want := auditsOf(facts, listed)
		expectAudits(t, "some facts", facts, listed, want)
		for i, at := range want {
			places[i][at]++
		}
	}
	for i, found := range places {
		for at := int64(-1); at < 8; at++ {
			if found[at] < 20 && !(at == 0 && (i == 0 || i == 2)) {
				t.Error("too few of a place", i, at, found)
			}
		}
	}
	for _, many := range []int{impl.MaxFacts - 1, impl.MaxFacts, impl.MaxFacts + 1} {
		facts := padded(many)
		for _, at := range []int{0, 1, 7, many / 2, many - 2, many - 1} {
			facts[at] = someFact(r)
		}
		expectAudits(t, "many facts", facts, someImages(2), auditsOf(facts, someImages(2)))
	}
}

// A plotWalk goes on from a new world, and keeps all evidence that was there for a quote, so that it is shown again.
type plotWalk struct {
	world impl.World
	pool  []impl.Evidence
}

func (p *plotWalk) act(a impl.Action) {
	next, _, code := impl.Act(p.world, a)
	p.world = next
	if a.Kind == impl.AcQuote && code == impl.WoOk {
		certs, _ := impl.CertsOf(next, a.At)
		if e, ok := impl.EvidenceOf(next.Devices[a.At], a.Text, a.Number, certs); ok {
			p.pool = append(p.pool, e)
		}
	}
}

// next is mostly an act that leads on, now and then something old that is shown again, as it was or with something of another one.
func (p *plotWalk) next(r *rand.Rand) impl.Action {
	if len(p.pool) == 0 || r.Intn(4) > 0 {
		return someAct(r, p.world)
	}
	e, other := p.pool[r.Intn(len(p.pool))], p.pool[r.Intn(len(p.pool))]
	switch r.Intn(8) {
	case 0:
		e.Log, e.Shown = other.Log, other.Shown
	case 1:
		e.Certs = other.Certs
	case 2:
		e.Nonce = other.Nonce
	case 3:
		e.Quote, e.Boots = other.Quote, other.Boots
	}
	return showing(e)
}

// Promise 19: whatever is done in a new world, no audit finds anything wrong; and they find what is changed in what happened.
func TestWhateverIsDoneAuditsAreFine(t *testing.T) {
	r := rand.New(rand.NewSource(102))
	images := someImages(3)
	var counts [8]int64
	good, changedOnes := 0, [5]int{}
	for round := range 60 {
		listed := images[:2+round%2]
		w, ok := impl.WorldNew([]string{"!k0", "!k1", "!k2"}[:1+round%3], listed, policyFor(images))
		if !ok {
			t.Fatal("a new world")
		}
		p := plotWalk{world: w}
		for range 180 {
			p.act(p.next(r))
		}
		facts := p.world.Facts
		expectAudits(t, "whatever is done", facts, listed, [5]int64{-1, -1, -1, -1, -1})
		for kind, n := range impl.Counts(facts) {
			counts[kind] += n
		}
		for _, f := range facts {
			if f.Kind == impl.FcVerdict && f.Good {
				good++
			}
		}
		for range 40 {
			other := slices.Clone(facts)
			at, from := r.Intn(len(other)), r.Intn(len(other))
			switch r.Intn(3) {
			case 0:
				other = slices.Delete(other, at, at+1)
			case 1:
				other = slices.Insert(other, at, other[from])
			case 2:
				other[at], other[from] = other[from], other[at]
			}
			want := auditsOf(other, listed)
			expectAudits(t, "what happened is changed", other, listed, want)
			for i := range want {
				if want[i] >= 0 {
					changedOnes[i]++
				}
			}
		}
	}
	if slices.Min(counts[:6]) < 100 || counts[6] != 0 || counts[7] < 50 || good < 100 || slices.Min(changedOnes[:]) < 20 {
		t.Error("too little was done", counts, good, changedOnes)
	}
}

// What leads from a quote to what is accepted is told by its nonce.
func TestStoryOfANonce(t *testing.T) {
	images := someImages(2)
	w, _ := impl.WorldNew([]string{"!a", "!b"}, images, policyFor(images))
	nonce := "(hash !v n1)"
	acts := []impl.Action{{Kind: impl.AcAsk}, {Kind: impl.AcRestart, At: 1, Number: 9}, {Kind: impl.AcLoad, At: 1, Image: images[0]}, {Kind: impl.AcAsk}, {Kind: impl.AcQuote, At: 1, Number: 255, Text: nonce}}
	w, done := impl.ActAll(w, acts)
	certs, _ := impl.CertsOf(w, 1)
	e, _ := impl.EvidenceOf(w.Devices[1], nonce, 255, certs)
	w, more := impl.ActAll(w, []impl.Action{{Kind: impl.AcTick, Number: 1}, showing(e), showing(e), accepting(tokenText("!v", nonce, "d1", 1), nonce, "d1", 1)})
	if done != 5 || more != 4 {
		t.Fatal("all is done", done, more, brief(w.Facts))
	}
	expectCounts(t, "what happened", w.Facts, 1, 1, 0, 2, 1, 1, 0, 1)
	expectStory(t, "of the nonce", w.Facts, nonce, 3, 4, 5, 6)
	expectStory(t, "of the other one", w.Facts, "(hash !v n0)", 0)
	expectStory(t, "of no text", w.Facts, "", 1, 2)
	expectAudits(t, "all is fine", w.Facts, images, [5]int64{-1, -1, -1, -1, -1})
}
