package tests

import (
	"math"
	"math/rand"
	"slices"
	"strings"
	"testing"

	"loop.example/g00082/impl"
)

// namedRegisters are r0 .. r7, each of a name of its own.
func namedRegisters() []string {
	return strings.Fields("r0 r1 r2 r3 r4 r5 r6 r7")
}

func withRegister(at int, term string) []string {
	regs := namedRegisters()
	regs[at] = term
	return regs
}

// wrongRegisters are no registers, in all the ways that the document has.
func wrongRegisters() [][]string {
	wrong := [][]string{nil, {}, namedRegisters()[:7], append(namedRegisters(), "r8"), {"a"}}
	for at := range 8 {
		for _, noTerm := range []string{"", "A", "a b", "(hash)", nested(41, "a"), termOf(4001)} {
			wrong = append(wrong, withRegister(at, noTerm))
		}
	}
	return wrong
}

func TestCleared(t *testing.T) {
	expect(t, "cleared", impl.Cleared(), "reset", "reset", "reset", "reset", "reset", "reset", "reset", "reset")
}

func TestExtend(t *testing.T) {
	for at := range 8 {
		for _, measure := range []string{"a", "!k", "(hash a b)", "(sign !k a)", "reset"} {
			regs, ok := impl.Extend(namedRegisters(), int64(at), measure)
			if !ok {
				t.Error("no extend", at, measure)
			}
			expect(t, "extended", regs, withRegister(at, "(hash "+namedRegisters()[at]+" "+measure+")")...)
		}
	}
}

func expectNoExtend(t *testing.T, what string, regs []string, at int64, measure string) {
	t.Helper()
	if got, ok := impl.Extend(regs, at, measure); ok || len(got) != 0 {
		t.Errorf("%s: %q %v", what, got, ok)
	}
}

func TestExtendOfWrongArguments(t *testing.T) {
	for _, regs := range wrongRegisters() {
		for at := range int64(8) {
			expectNoExtend(t, "no registers", regs, at, "a")
		}
	}
	for _, at := range []int64{-1, 8, 9, math.MinInt64, math.MaxInt64, 1 << 32, -8} {
		expectNoExtend(t, "no place", namedRegisters(), at, "a")
	}
	for _, measure := range []string{"", "A", "a b", "(hash a", "(pair a)", "a) (hash b", nested(41, "a")} {
		expectNoExtend(t, "no measure", namedRegisters(), 3, measure)
	}
}

func TestExtendToTheBytes(t *testing.T) {
	room := impl.MaxTerm - len("(hash  )")
	for _, size := range []int{1, 12, 500, 2000, room - 1} {
		regs := withRegister(6, termOf(size))
		got, ok := impl.Extend(regs, 6, termOf(room-size))
		if !ok || len(got[6]) != impl.MaxTerm {
			t.Error("a hash that just meets the bytes", size)
		}
		if got != nil {
			expectNoExtend(t, "a register that is full", got, 6, "a")
			if next, ok := impl.Extend(got, 5, "a"); !ok || next[5] != "(hash r5 a)" || next[6] != got[6] {
				t.Error("its neighbour has room")
			}
		}
		expectNoExtend(t, "a byte too many", regs, 6, termOf(room-size+1))
	}
	full := withRegister(0, termOf(impl.MaxTerm))
	expectNoExtend(t, "full", full, 0, "a")
}

func TestExtendToTheBrackets(t *testing.T) {
	for _, c := range []struct{ register, measure int }{{39, 39}, {39, 0}, {0, 39}} {
		regs := withRegister(2, nested(c.register, "a"))
		got, ok := impl.Extend(regs, 2, nested(c.measure, "b"))
		if !ok || got[2] != "(hash "+nested(c.register, "a")+" "+nested(c.measure, "b")+")" {
			t.Error("a hash that just meets the brackets", c, got)
		}
	}
	expectNoExtend(t, "brackets of the register", withRegister(2, nested(40, "a")), 2, "b")
	expectNoExtend(t, "brackets of the measure", namedRegisters(), 2, nested(40, "b"))
}

func stepsOf(n int, at func(i int) int64) []impl.Event {
	var events []impl.Event
	for i := range n {
		events = append(events, impl.Event{Register: at(i), Measure: "m"})
	}
	return events
}

func inTurn(i int) int64 { return int64(i % 8) }

func inThree(i int) int64 { return 3 }

func expectNoFold(t *testing.T, what string, events []impl.Event) {
	t.Helper()
	if got, ok := impl.Fold(events); ok || len(got) != 0 {
		t.Errorf("%s: %q %v", what, got, ok)
	}
}

func TestFold(t *testing.T) {
	got, ok := impl.Fold(nil)
	if !ok {
		t.Error("no event is right")
	}
	expect(t, "no event", got, impl.Cleared()...)
	got, ok = impl.Fold([]impl.Event{{Register: 7, Measure: "a"}, {Register: 0, Measure: "!b"}, {Register: 7, Measure: "(hash c)"}})
	if !ok || got[0] != "(hash reset !b)" || got[7] != "(hash (hash reset a) (hash c))" || got[1] != "reset" {
		t.Error(got, ok)
	}
	if _, ok := impl.Fold(stepsOf(impl.MaxEvents, inTurn)); !ok {
		t.Error("the most events")
	}
	expectNoFold(t, "an event too many", stepsOf(impl.MaxEvents+1, inTurn))
	if got, ok := impl.Fold(stepsOf(impl.MaxDeep, inThree)); !ok || got[3] != strings.Repeat("(hash ", 40)+"reset"+strings.Repeat(" m)", 40) {
		t.Error("as deep as it goes", got, ok)
	}
	expectNoFold(t, "a bracket too many", stepsOf(impl.MaxDeep+1, inThree))
}

func TestFoldOfWrongEvents(t *testing.T) {
	for _, wrong := range []impl.Event{{Register: -1, Measure: "a"}, {Register: 8, Measure: "a"}, {Register: 1}, {Register: 1, Measure: "a b"}, {Register: 1, Measure: nested(40, "a")}, {Register: 1, Measure: termOf(3999)}} {
		for at := range 4 {
			expectNoFold(t, "a wrong event", slices.Insert(stepsOf(3, inTurn), at, wrong))
		}
	}
}

// Promise 4: folding goes event by event.
func TestFoldIsExtendOfEach(t *testing.T) {
	r := rand.New(rand.NewSource(5))
	for range 400 {
		regs, right := impl.Cleared(), true
		var events []impl.Event
		for range r.Intn(14) {
			e := impl.Event{Register: r.Int63n(8), Measure: someTerm(r, 3)}
			if r.Intn(40) == 0 {
				e = impl.Event{Register: r.Int63n(14) - 3, Measure: pick(r, "a", "", "A")}
			}
			events = append(events, e)
			if right {
				regs, right = impl.Extend(regs, e.Register, e.Measure)
			}
			got, ok := impl.Fold(events)
			if ok != right {
				t.Fatal("fold and extend", events, ok, right)
			}
			expect(t, "fold and extend", got, regs...)
		}
	}
}

// chosenBy is what a mask chooses, as the document tells it.
func chosenBy(regs []string, mask int64) []string {
	var chosen []string
	for at := range 8 {
		if mask>>at&1 == 1 {
			chosen = append(chosen, regs[at])
		}
	}
	return chosen
}

func nameOf(n int64) string {
	name, _ := impl.Number(n)
	return name
}

func TestCompositeAndShown(t *testing.T) {
	regs := namedRegisters()
	regs[4] = "(hash r4 !k)"
	for mask := int64(1); mask <= 255; mask++ {
		chosen := chosenBy(regs, mask)
		got, ok := impl.Shown(regs, mask)
		if !ok {
			t.Error("shown", mask)
		}
		expect(t, "shown", got, chosen...)
		want := "(hash " + nameOf(mask) + " " + strings.Join(chosen, " ") + ")"
		if mask == 255 {
			want = "(hash n255 (hash " + strings.Join(regs, " ") + "))"
		}
		if c, ok := impl.Composite(regs, mask); !ok || c != want {
			t.Errorf("composite: got %q %v, want %q", c, ok, want)
		}
	}
	for _, m := range []struct {
		mask int64
		want string
	}{{1, "(hash n1 r0)"}, {128, "(hash n128 r7)"}, {254, "(hash n254 r1 r2 r3 (hash r4 !k) r5 r6 r7)"}, {127, "(hash n127 r0 r1 r2 r3 (hash r4 !k) r5 r6)"}} {
		if c, ok := impl.Composite(regs, m.mask); !ok || c != m.want {
			t.Error(c, ok, m.want)
		}
	}
}

func expectNoneChosen(t *testing.T, what string, regs []string, mask int64) {
	t.Helper()
	if got, ok := impl.Composite(regs, mask); ok || got != "" {
		t.Errorf("%s: composite %q %v", what, got, ok)
	}
	if got, ok := impl.Shown(regs, mask); ok || len(got) != 0 {
		t.Errorf("%s: shown %q %v", what, got, ok)
	}
}

func TestCompositeOfWrongArguments(t *testing.T) {
	for _, regs := range wrongRegisters() {
		for _, mask := range []int64{0, 1, 4, 127, 128, 255, 256} {
			expectNoneChosen(t, "no registers", regs, mask)
		}
	}
	for _, mask := range []int64{0, -1, -255, 256, 257, 511, math.MinInt64, math.MaxInt64, 1<<32 + 1} {
		expectNoneChosen(t, "no mask", namedRegisters(), mask)
	}
}

func expectComposite(t *testing.T, what string, regs []string, mask int64, there bool) {
	t.Helper()
	c, ok := impl.Composite(regs, mask)
	if ok != there || ok != (impl.KindOf(c) == impl.TmHash) || !ok && c != "" {
		t.Errorf("%s: composite %v, want %v", what, ok, there)
	}
	got, ok := impl.Shown(regs, mask)
	if !ok {
		t.Errorf("%s: nothing shown", what)
	}
	expect(t, what, got, chosenBy(regs, mask)...)
}

func TestCompositeThatIsNoTerm(t *testing.T) {
	deep := withRegister(5, nested(39, "a"))
	expectComposite(t, "one bracket around", deep, 32, true)
	expectComposite(t, "two brackets around", deep, 255, false)
	expectComposite(t, "two brackets around", withRegister(5, nested(38, "a")), 255, true)
	expectComposite(t, "too deep", withRegister(5, nested(40, "a")), 32, false)
	expectComposite(t, "too deep, not chosen", withRegister(5, nested(40, "a")), 223, true)
	// The eighth register is as long as there is room.
	seven := len("(hash n254 r1 r2 r3 r4 r5 r6 )")
	expectComposite(t, "bytes", withRegister(7, termOf(impl.MaxTerm-seven)), 254, true)
	expectComposite(t, "a byte too many", withRegister(7, termOf(impl.MaxTerm-seven+1)), 254, false)
	eight := len("(hash n255 (hash r0 r1 r2 r3 r4 r5 r6 ))")
	expectComposite(t, "bytes", withRegister(7, termOf(impl.MaxTerm-eight)), 255, true)
	// Here the hash of the registers is a term yet, and the one around it is none.
	for over := 1; over <= len("(hash n255 )"); over++ {
		expectComposite(t, "bytes too many", withRegister(7, termOf(impl.MaxTerm-eight+over)), 255, false)
	}
	expectComposite(t, "bytes too many", withRegister(7, termOf(impl.MaxTerm)), 255, false)
	expectComposite(t, "bytes that are not chosen", withRegister(7, termOf(impl.MaxTerm)), 127, true)
}

// Promise 4: unlike registers that a mask chooses have unlike composites.
func TestUnlikeRegistersUnlikeComposites(t *testing.T) {
	for at := range 8 {
		for mask := int64(1); mask <= 255; mask++ {
			one, _ := impl.Composite(namedRegisters(), mask)
			two, ok := impl.Composite(withRegister(at, "other"), mask)
			chosen := slices.Contains(chosenBy(namedRegisters(), mask), namedRegisters()[at])
			if !ok || (one != two) != chosen {
				t.Error(at, mask, one, two)
			}
		}
	}
	seen := map[string]string{}
	r := rand.New(rand.NewSource(6))
	for range 3000 {
		var regs []string
		for range 8 {
			regs = append(regs, pick(r, "a", "b", "(hash a)", "(hash b)", "(hash a b)", "(hash a a a)"))
		}
		mask := 1 + r.Int63n(255)
		if r.Intn(4) == 0 {
			mask = 255
		}
		c, ok := impl.Composite(regs, mask)
		what := nameOf(mask) + ": " + strings.Join(chosenBy(regs, mask), ", ")
		if before := seen[c]; !ok || before != "" && before != what {
			t.Error(c, before, what)
		}
		seen[c] = what
	}
}
