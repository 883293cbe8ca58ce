package tests

import (
	"math"
	"math/rand"
	"regexp"
	"slices"
	"strconv"
	"testing"

	"loop.example/g00082/impl"
)

// aLoad is the text of a MeasureOf, but for the limits of its numbers.
var aLoad = regexp.MustCompile(`^\(hash n(0|[1-9][0-9]*) ([a-z][a-z0-9]{0,11}) n(0|[1-9][0-9]*)\)$`)

// looksLike is Looks, as the document tells it.
func looksLike(measure string) (int64, impl.Image, bool) {
	m := aLoad.FindStringSubmatch(measure)
	if m == nil {
		return 0, impl.Image{}, false
	}
	layer, err := strconv.ParseInt(m[1], 10, 64)
	if err != nil || layer > impl.MaxLayer {
		return 0, impl.Image{}, false
	}
	version, err := strconv.ParseInt(m[3], 10, 64)
	if err != nil || version > impl.MaxNumber {
		return 0, impl.Image{}, false
	}
	return layer, impl.Image{Name: m[2], Version: version}, true
}

func expectLooks(t *testing.T, measure string, layer int64, image impl.Image, there bool) {
	t.Helper()
	if l, i, ok := impl.Looks(measure); l != layer || i != image || ok != there {
		t.Errorf("looks %.200q: got %d %v %v, want %d %v %v", measure, l, i, ok, layer, image, there)
	}
}

func expectNoLook(t *testing.T, measures ...string) {
	t.Helper()
	for _, m := range measures {
		expectLooks(t, m, 0, impl.Image{}, false)
	}
}

func TestLooks(t *testing.T) {
	versions := []int64{0, 1, 9, 10, 100, impl.MaxNumber - 1, impl.MaxNumber}
	for layer := range int64(impl.MaxLayer + 1) {
		for _, name := range []string{"a", "abcdefghijkl", "z9", "reset", "hash", "n5", "n", "n00", "n1000000001"} {
			for _, version := range versions {
				image := impl.Image{Name: name, Version: version}
				m, ok := impl.MeasureOf(layer, image)
				if !ok {
					t.Fatal("it is a measure", layer, image)
				}
				expectLooks(t, m, layer, image, true)
			}
		}
	}
	expectLooks(t, "(hash n0 a n0)", 0, impl.Image{Name: "a"}, true)
	expectLooks(t, "(hash n1 n5 n7)", 1, impl.Image{Name: "n5", Version: 7}, true)
	expectLooks(t, "(hash n15 abcdefghijkl n1000000000)", 15, impl.Image{Name: "abcdefghijkl", Version: 1000000000}, true)
}

func TestWhatLooksLikeNoLoad(t *testing.T) {
	for _, part := range []string{"n", "n00", "n01", "n000", "n1x", "nx", "nn1", "n1000000001", "n4294967297", "n99999999999", "x1", "a", "core", "!n1", "(hash n1)", "(pub !n1)"} {
		for _, m := range []string{"(hash " + part + " core n7)", "(hash n1 core " + part + ")", "(hash " + part + " core " + part + ")"} {
			if impl.KindOf(m) != impl.TmHash {
				t.Fatal("it is a hash", m)
			}
			expectNoLook(t, m)
		}
	}
	// Layers above MaxLayer, which a version may well be.
	for _, layer := range []string{"n16", "n17", "n20", "n99", "n150", "n1000000000"} {
		expectNoLook(t, "(hash "+layer+" core n7)")
		expectLooks(t, "(hash n1 core "+layer+")", 1, impl.Image{Name: "core", Version: impl.NumberOf(layer)}, true)
	}
	expectLooks(t, "(hash n15 core n7)", 15, impl.Image{Name: "core", Version: 7}, true)
	for _, name := range []string{"!core", "!n5", "(pair a b)", "(hash core)", "(pub !k)", "(sign !k core)", "(seal a core)", "(hash n1 core n7)"} {
		expectNoLook(t, "(hash n1 "+name+" n7)")
	}
	// Of other counts of parts.
	expectNoLook(t, "(hash n1)", "(hash n1 core)", "(hash core n7)", "(hash n1 n7)", "(hash n1 core n7 n7)", "(hash n1 core n7 a)", "(hash a n1 core n7)", "(hash n1 a core n7)", "(hash n1 core n7 a b)")
	// Of other kinds.
	expectNoLook(t, "a", "core", "n1", "hash", "!n1", "!core", "(pair n1 core)", "(seal n1 core)", "(sign !n1 core)", "(pub !core)", "(hash (hash n1 core n7))", "(pair (hash n1 core n7) a)")
}

func TestWhatIsNoTermLooksLikeNoLoad(t *testing.T) {
	expectNoLook(t, "", " ", "(", ")", "()", "(hash n1 core n7", "hash n1 core n7)", "hash n1 core n7", "(hash n1 core n7))", "((hash n1 core n7)", " (hash n1 core n7)", "(hash n1 core n7) ", "(hash n1 core n7)\n", "(hash n1 core n7)\x00",
		"(hash  n1 core n7)", "(hash n1  core n7)", "(hash n1 core n7 )", "( hash n1 core n7)", "(hash\tn1 core n7)", "(Hash n1 core n7)", "(hash n1 Core n7)", "(hash N1 core n7)", "(hash n1 core N7)", "(hash n-1 core n7)", "(hash n1 core n-7)", "(hash n+1 core n7)", "(hash 1 core 7)", "(hash n1 9core n7)", "(hash n1 c\u00f6re n7)",
		"(hash n1 abcdefghijklm n7)", "(hash n1 core n99999999999999999999)", "(hash n18446744073709551617 core n7)", "(pair n1 core n7)", "(seal n1 core n7)", "(mash n1 core n7)", "(hash n1 core n7) (hash n1 core n7)", "(hash n1 core n7)(hash n1 core n7)",
		termOf(impl.MaxTerm+1), nested(impl.MaxDeep+1, "a"))
}

func TestTurnedBytesOfMeasures(t *testing.T) {
	r := rand.New(rand.NewSource(21))
	const from = "nnn0012579 ()!abhx("
	for range 60000 {
		m := []byte(measured(r.Int63n(18), impl.Image{Name: pick(r, "core", "n5", "a1", "abcdefghijkl"), Version: r.Int63n(12)}))
		for range r.Intn(3) {
			at, b := r.Intn(len(m)), from[r.Intn(len(from))]
			switch r.Intn(3) {
			case 0:
				m[at] = b
			case 1:
				m = slices.Insert(m, at, b)
			case 2:
				m = slices.Delete(m, at, at+1)
			}
		}
		layer, image, ok := looksLike(string(m))
		expectLooks(t, string(m), layer, image, ok)
	}
}

// replayImages is ImagesOf, as the document tells it.
func replayImages(events []impl.Event) ([]impl.Image, int64, int64) {
	if len(events) > impl.MaxEvents {
		return nil, impl.RpEvents, -1
	}
	var images []impl.Image
	for at, e := range events {
		if e.Register < 0 || e.Register > 7 || impl.KindOf(e.Measure) == 0 {
			return nil, impl.RpTerm, int64(at)
		}
		layer, image, ok := looksLike(e.Measure)
		switch {
		case !ok:
		case layer != int64(len(images)):
			return nil, impl.RpLayer, int64(at)
		case e.Register != layer%8:
			return nil, impl.RpRegister, int64(at)
		default:
			images = append(images, image)
		}
	}
	return images, 0, -1
}

func expectImages(t *testing.T, what string, events []impl.Event, want []impl.Image, wantCode int64, wantAt int64) {
	t.Helper()
	if got, code, at := impl.ImagesOf(events); code != wantCode || at != wantAt || !slices.Equal(got, want) {
		t.Errorf("%s: images of %.300v: got %v %d %d, want %v %d %d", what, events, got, code, at, want, wantCode, wantAt)
	}
}

func expectReplay(t *testing.T, what string, events []impl.Event, shown []string, mask int64, want []impl.Image, wantCode int64, wantAt int64) {
	t.Helper()
	if got, code, at := impl.Replay(events, shown, mask); code != wantCode || at != wantAt || !slices.Equal(got, want) {
		t.Errorf("%s: replay of %.300v, shown %.200q, mask %d: got %v %d %d, want %v %d %d", what, events, shown, mask, got, code, at, want, wantCode, wantAt)
	}
}

// idle are events that look like no load, each in its own way.
func idle() []impl.Event {
	return []impl.Event{{Register: 0, Measure: "x"}, {Register: 7, Measure: "!k"}, {Register: 3, Measure: "(hash n0 core)"}, {Register: 0, Measure: "(hash n16 core n7)"}, {Register: 5, Measure: "(hash n1 core n01)"}, {Register: 1, Measure: "(pair n1 (hash n9 core n7))"}, {Register: 2, Measure: "n2"}}
}

// among puts idle events between, ahead of and behind the given ones.
func among(events []impl.Event) []impl.Event {
	all := idle()[:2]
	for i, e := range events {
		all = append(all, e, idle()[i%len(idle())])
	}
	return all
}

func TestImagesOf(t *testing.T) {
	expectImages(t, "nothing", nil, nil, 0, -1)
	expectImages(t, "an empty list", []impl.Event{}, nil, 0, -1)
	expectImages(t, "no load", idle(), nil, 0, -1)
	expectImages(t, "the most events", stepsOf(impl.MaxEvents, inTurn), nil, 0, -1)
	for n := range impl.MaxLayer + 2 {
		images := someImages(n)
		expectImages(t, "loads", loadsOf(images), images, 0, -1)
		expectImages(t, "loads among others", among(loadsOf(images)), images, 0, -1)
		full := append(loadsOf(images), stepsOf(impl.MaxEvents-n, inTurn)...)
		expectImages(t, "the most events", full, images, 0, -1)
		expectImages(t, "an event too many", append(full, impl.Event{Measure: "a"}), nil, impl.RpEvents, -1)
	}
	same := slices.Repeat([]impl.Image{{Name: "a", Version: 3}}, impl.MaxLayer+1)
	expectImages(t, "an image in each layer", loadsOf(same), same, 0, -1)
	expectImages(t, "what does not fold", stepsOf(impl.MaxEvents, inThree), nil, 0, -1)
	expectImages(t, "a measure of all bytes", []impl.Event{{Register: 4, Measure: termOf(impl.MaxTerm)}, {Register: 4, Measure: nested(impl.MaxDeep, "a")}}, nil, 0, -1)
	most := someImages(impl.MaxLayer + 1)
	expectImages(t, "a layer that is none looks like no load", append(loadsOf(most), impl.Event{Register: 0, Measure: "(hash n16 a n1)"}), most, 0, -1)
	expectImages(t, "the last layer again", append(loadsOf(most), loadOf(15, most[15])), nil, impl.RpLayer, 16)
}

func TestTooManyEvents(t *testing.T) {
	if !slices.Equal([]int64{impl.RpEvents, impl.RpTerm, impl.RpLayer, impl.RpRegister, impl.RpFold}, []int64{1, 2, 3, 4, 5}) {
		t.Error("numbers of the codes")
	}
	for _, first := range []impl.Event{{Register: 8, Measure: "a"}, {Measure: ""}, loadOf(1, impl.Image{Name: "a"}), {Register: 1, Measure: "(hash n0 a n0)"}, {Measure: "a"}} {
		events := append([]impl.Event{first}, stepsOf(impl.MaxEvents, inTurn)...)
		expectImages(t, "an event too many", events, nil, impl.RpEvents, -1)
		for _, mask := range []int64{-1, 0, 1, 255, 256} {
			expectReplay(t, "an event too many", events, nil, mask, nil, impl.RpEvents, -1)
		}
	}
	expectImages(t, "far too many", stepsOf(5000, inTurn), nil, impl.RpEvents, -1)
}

// A faultyEvent has its code where two loads are ahead of it.
type faultyEvent struct {
	event impl.Event
	code  int64
}

func faultyEvents() []faultyEvent {
	image := impl.Image{Name: "app", Version: 3}
	var faulty []faultyEvent
	for _, measure := range []string{"a", "(hash n2 app n3)", "(hash n0 app n3)", "(hash n9 app n3)", ""} {
		for _, at := range []int64{-1, 8, 10, 255, 258, math.MinInt64, math.MaxInt64} {
			faulty = append(faulty, faultyEvent{impl.Event{Register: at, Measure: measure}, impl.RpTerm})
		}
	}
	for _, noTerm := range []string{"", "A", "a b", "(hash a", "(hash n2 app n3", "(hash n2 app n3) ", " (hash n2 app n3)", "(hash n2 App n3)", "(hash n0  app n3)", nested(impl.MaxDeep+1, "a"), termOf(impl.MaxTerm + 1)} {
		for at := range int64(8) {
			faulty = append(faulty, faultyEvent{impl.Event{Register: at, Measure: noTerm}, impl.RpTerm})
		}
	}
	for _, layer := range []int64{0, 1, 3, 4, 7, 8, 10, 15} {
		for at := range int64(8) { // also the ones in which neither the layer nor the Register is right
			faulty = append(faulty, faultyEvent{impl.Event{Register: at, Measure: measured(layer, image)}, impl.RpLayer})
		}
	}
	for _, at := range []int64{0, 1, 3, 4, 5, 6, 7} {
		faulty = append(faulty, faultyEvent{impl.Event{Register: at, Measure: measured(2, image)}, impl.RpRegister})
	}
	return faulty
}

func TestReplayCodesAtTheirPlaces(t *testing.T) {
	loads := loadsOf(someImages(2))
	for _, f := range faultyEvents() {
		for n := range 6 {
			events := append(slices.Concat(idle()[:n], loads[:1], idle()[:n], loads[1:]), f.event)
			at := int64(len(events)) - 1
			expectImages(t, "a fault at the end", events, nil, f.code, at)
			expectImages(t, "a fault, and more", append(events, idle()...), nil, f.code, at)
			expectReplay(t, "a fault", events, impl.Cleared()[:1], 1, nil, f.code, at)
		}
		// The first event that has a fault is told, whatever its code.
		for _, behind := range []impl.Event{{Register: -1, Measure: "a"}, {Measure: ""}, loadOf(9, impl.Image{Name: "b"}), {Register: 5, Measure: "(hash n2 b n0)"}} {
			expectImages(t, "two faults", append(slices.Clone(loads), f.event, behind), nil, f.code, 2)
		}
		expectImages(t, "a fault behind another one", append([]impl.Event{loads[0], {Register: 4, Measure: "(hash n1 b n0)"}, loads[1]}, f.event), nil, impl.RpRegister, 1)
	}
}

func TestFirstLoadOfALog(t *testing.T) {
	image := impl.Image{Name: "a"}
	for layer := range int64(impl.MaxLayer + 1) {
		for register := int64(-1); register < 17; register++ {
			want, code := []impl.Image(nil), int64(0)
			switch {
			case register < 0 || register > 7:
				code = impl.RpTerm
			case layer != 0:
				code = impl.RpLayer
			case register != 0:
				code = impl.RpRegister
			default:
				want = []impl.Image{image}
			}
			at := int64(0)
			if code == 0 {
				at = -1
			}
			expectImages(t, "one load", []impl.Event{{Register: register, Measure: measured(layer, image)}}, want, code, at)
		}
	}
}

func TestLayersAndTheirRegisters(t *testing.T) {
	images := someImages(impl.MaxLayer + 1)
	for _, layer := range []int64{0, 1, 6, 7, 8, 9, 14, 15} {
		ahead := loadsOf(images[:layer])
		for register := int64(-1); register < 17; register++ {
			events := append(slices.Clone(ahead), impl.Event{Register: register, Measure: measured(layer, images[layer])})
			switch {
			case register < 0 || register > 7:
				expectImages(t, "no register", events, nil, impl.RpTerm, layer)
			case register != layer%8:
				expectImages(t, "another one's register", events, nil, impl.RpRegister, layer)
			default:
				expectImages(t, "its register", events, images[:layer+1], 0, -1)
			}
		}
		for again := range layer {
			expectImages(t, "a layer again", append(slices.Clone(ahead), loadOf(again, images[again])), nil, impl.RpLayer, layer)
		}
		for left := range layer {
			events := slices.Delete(loadsOf(images[:layer+1]), int(left), int(left)+1)
			expectImages(t, "a layer left out", events, nil, impl.RpLayer, left)
		}
	}
}

// someReplay is a log that is right for the most part.
func someReplay(r *rand.Rand) []impl.Event {
	var events []impl.Event
	layer := int64(0)
	for range r.Intn(20) {
		e := impl.Event{Register: r.Int63n(8), Measure: someTerm(r, 2)}
		if r.Intn(2) == 0 {
			e = loadOf(layer, impl.Image{Name: pick(r, "boot", "core", "n1"), Version: r.Int63n(4)})
			layer++
		}
		switch r.Intn(60) {
		case 0:
			e.Register = r.Int63n(12) - 2
		case 1:
			e.Measure = pick(r, "", "A", "(hash n0 a n0)", "(hash n1 a n0)", "(hash n2 a n0)", "(hash n3 a n0)")
		case 2:
			layer = r.Int63n(17)
		}
		events = append(events, e)
	}
	return events
}

func TestSomeReplays(t *testing.T) {
	r := rand.New(rand.NewSource(22))
	seen := map[int64]int{}
	for range 6000 {
		events := someReplay(r)
		images, code, at := replayImages(events)
		seen[code]++
		expectImages(t, "some events", events, images, code, at)
		mask := r.Int63n(258) - 1
		if code != 0 {
			expectReplay(t, "some events", events, impl.Cleared(), mask, nil, code, at)
			continue
		}
		regs := folded(events)
		shown := chosenBy(regs, mask)
		if mask < 1 || mask > 255 {
			expectReplay(t, "no mask", events, shown, mask, nil, impl.RpFold, -1)
			continue
		}
		expectReplay(t, "some events", events, shown, mask, images, 0, -1)
		other := slices.Clone(shown)
		other[r.Intn(len(other))] += "x"
		expectReplay(t, "another register", events, other, mask, nil, impl.RpFold, -1)
	}
	if len(seen) != 4 || seen[impl.RpTerm] < 50 || seen[impl.RpLayer] < 50 || seen[impl.RpRegister] < 10 {
		t.Error("codes that were met", seen)
	}
}

func TestReplayMasks(t *testing.T) {
	images := someImages(3)
	events := among(loadsOf(images))
	regs := folded(events)
	for mask := int64(1); mask <= 255; mask++ {
		expectReplay(t, "a mask", events, chosenBy(regs, mask), mask, images, 0, -1)
		expectReplay(t, "a mask and nothing", nil, chosenBy(impl.Cleared(), mask), mask, nil, 0, -1)
	}
	for _, mask := range []int64{-1, 0, 256, 257, -255, 511, math.MinInt64, math.MaxInt64, 1<<32 + 1} {
		for _, shown := range [][]string{nil, {}, regs, regs[:1], chosenBy(regs, mask)} {
			expectReplay(t, "no mask", events, shown, mask, nil, impl.RpFold, -1)
			expectReplay(t, "no mask and nothing", nil, shown, mask, nil, impl.RpFold, -1)
		}
	}
}

func TestReplayOfWhatIsShown(t *testing.T) {
	images := someImages(3)
	events := among(loadsOf(images))
	regs := folded(events)
	for _, mask := range []int64{1, 2, 3, 6, 128, 129, 254, 255} {
		shown := chosenBy(regs, mask)
		unlike := [][]string{nil, {}, shown[1:], shown[:len(shown)-1], append(slices.Clone(shown), regs[7]), append([]string{regs[0]}, shown...), append(slices.Clone(shown), ""), slices.Repeat(shown, 2), impl.Cleared(), namedRegisters()}
		for i := range shown {
			for _, other := range []string{"", "reset", "other", shown[i] + " ", "(hash " + shown[i] + ")"} {
				if other != shown[i] {
					wrong := slices.Clone(shown)
					wrong[i] = other
					unlike = append(unlike, wrong)
				}
			}
			for j := range i {
				if shown[i] != shown[j] {
					turned := slices.Clone(shown)
					turned[i], turned[j] = turned[j], turned[i]
					unlike = append(unlike, turned)
				}
			}
		}
		expectReplay(t, "shown", events, shown, mask, images, 0, -1)
		for _, other := range unlike {
			expectReplay(t, "not shown", events, other, mask, nil, impl.RpFold, -1)
		}
	}
	expectReplay(t, "those of another mask", events, chosenBy(regs, 3), 5, nil, impl.RpFold, -1)
	expectReplay(t, "all, where some are chosen", events, regs, 127, nil, impl.RpFold, -1)
}

func TestReplayOfWhatDoesNotFold(t *testing.T) {
	images := someImages(2)
	loads := loadsOf(images)
	deep := append(slices.Clone(loads), stepsOf(impl.MaxDeep, inThree)...)
	expectReplay(t, "as deep as it goes", deep, chosenBy(folded(deep), 8), 8, images, 0, -1)
	over := append(slices.Clone(deep), impl.Event{Register: 3, Measure: "m"})
	full := impl.Event{Register: 6, Measure: termOf(impl.MaxTerm - len("(hash reset )"))}
	long := append(slices.Clone(loads), full)
	expectReplay(t, "as long as it goes", long, chosenBy(folded(long), 64), 64, images, 0, -1)
	for _, events := range [][]impl.Event{over, append(slices.Clone(long), impl.Event{Register: 6, Measure: "a"}), {{Register: 6, Measure: termOf(impl.MaxTerm)}}, {{Register: 6, Measure: nested(impl.MaxDeep, "a")}}} {
		for _, mask := range []int64{1, 8, 64, 255, 0, 256} {
			for _, shown := range [][]string{nil, chosenBy(folded(events), mask), chosenBy(folded(deep), mask), impl.Cleared()} {
				expectReplay(t, "a register that is no term any more", events, shown, mask, nil, impl.RpFold, -1)
			}
		}
		// ImagesOf is asked first.
		last := int64(len(events))
		expectReplay(t, "no register, too", append(slices.Clone(events), impl.Event{Register: 8, Measure: "a"}), nil, 1, nil, impl.RpTerm, last)
		expectReplay(t, "no term, too", append(slices.Clone(events), impl.Event{Register: 1}), nil, 0, nil, impl.RpTerm, last)
		expectReplay(t, "no next layer, too", append(slices.Clone(events), loadOf(5, impl.Image{Name: "a"})), nil, 256, nil, impl.RpLayer, last)
	}
	expectReplay(t, "not its register, too", append(slices.Clone(over), impl.Event{Register: 3, Measure: "(hash n2 a n0)"}), nil, 1, nil, impl.RpRegister, int64(len(over)))
}

// loadedDevice is a new device that only loads these.
func loadedDevice(t *testing.T, images []impl.Image) impl.Device {
	t.Helper()
	d, ok := impl.DeviceNew("dev", "!k")
	d, code := impl.Restart(d, resetWrites)
	if !ok || code != impl.RsUp {
		t.Fatal("no new device", d, code)
	}
	for _, image := range images {
		if d, code = impl.Load(d, image); code != impl.LdOk {
			t.Fatal("no load", image, code)
		}
	}
	return d
}

// Promise 9: the log of a new device that only loads tells its images by the registers that it shows.
func TestLogsOfLoadsTellTheirImages(t *testing.T) {
	for n := range impl.MaxLayer + 2 {
		images := someImages(n)
		d := loadedDevice(t, images)
		for mask := int64(1); mask <= 255; mask++ {
			shown, _ := impl.Shown(d.Root.Regs, mask)
			expectReplay(t, "a device that only loads", d.Log, shown, mask, d.Loaded, 0, -1)
		}
		if !slices.Equal(d.Loaded, images) {
			t.Error("loaded", d.Loaded)
		}
	}
}

// expectLeftOut: with an event of a shown register left out, the log is not that of the registers.
func expectLeftOut(t *testing.T, d impl.Device, mask int64) {
	t.Helper()
	shown, _ := impl.Shown(d.Root.Regs, mask)
	images, code, _ := impl.Replay(d.Log, shown, mask)
	places, ok := impl.Depends(d.Log, mask)
	if !ok || code != 0 {
		t.Error("a right log", d.Log, mask, code)
	}
	for at := range d.Log {
		left := slices.Delete(slices.Clone(d.Log), at, at+1)
		got, code, _ := impl.Replay(left, shown, mask)
		if slices.Contains(places, int64(at)) {
			if code == 0 || len(got) != 0 {
				t.Error("an event of a shown register is left out", d.Log, at, mask, got)
			}
			continue
		}
		if _, _, ok := looksLike(d.Log[at].Measure); !ok && (code != 0 || !slices.Equal(got, images)) {
			t.Error("what is not shown, and no load, is left out", d.Log, at, mask, got, code)
		}
	}
}

// Promise 9: a log of shown registers from which an event of one of them is left out is not that of the registers.
func TestLogsWithAnEventLeftOut(t *testing.T) {
	for mask := int64(1); mask <= 255; mask++ {
		expectLeftOut(t, loadedDevice(t, someImages(impl.MaxLayer+1)), mask)
	}
	r := rand.New(rand.NewSource(23))
	for range 150 {
		d := loadedDevice(t, nil)
		for range r.Intn(14) {
			if r.Intn(2) == 0 {
				d, _ = impl.Load(d, impl.Image{Name: pick(r, "a", "b"), Version: r.Int63n(2)})
				continue
			}
			d, _ = impl.Note(d, r.Int63n(8), pick(r, "m", "n", "!k", "(hash reset m)", "reset"))
		}
		for _, mask := range []int64{1, 2, 128, 255, 1 + r.Int63n(255), 1 + r.Int63n(255)} {
			expectLeftOut(t, d, mask)
		}
	}
}

func expectDepends(t *testing.T, what string, events []impl.Event, mask int64, want ...int64) {
	t.Helper()
	if got, ok := impl.Depends(events, mask); !ok || !slices.Equal(got, want) {
		t.Errorf("%s: mask %d: got %v %v, want %v", what, mask, got, ok, want)
	}
}

func expectNoDepends(t *testing.T, what string, events []impl.Event, mask int64) {
	t.Helper()
	if got, ok := impl.Depends(events, mask); ok || len(got) != 0 {
		t.Errorf("%s: mask %d: got %v %v", what, mask, got, ok)
	}
}

func TestDepends(t *testing.T) {
	expectDepends(t, "nothing", nil, 1)
	expectDepends(t, "nothing", []impl.Event{}, 255)
	events := []impl.Event{{Register: 7, Measure: "a"}, {Register: 0, Measure: "b"}, {Register: 7, Measure: "c"}, {Register: 3, Measure: "d"}, {Register: 0, Measure: "b"}}
	expectDepends(t, "the first", events, 1, 1, 4)
	expectDepends(t, "the last", events, 128, 0, 2)
	expectDepends(t, "both", events, 129, 0, 1, 2, 4)
	expectDepends(t, "none of these", events, 2)
	expectDepends(t, "all but one", events, 247, 0, 1, 2, 4)
	expectDepends(t, "all", events, 255, 0, 1, 2, 3, 4)
	most := stepsOf(impl.MaxEvents, inTurn)
	for mask := int64(1); mask <= 255; mask++ {
		var want []int64
		for at, e := range most {
			if mask>>e.Register&1 == 1 {
				want = append(want, int64(at))
			}
		}
		expectDepends(t, "the most events", most, mask, want...)
	}
	// Measures are not asked.
	for _, noTerm := range []string{"", "A", "a b", "(hash a", termOf(impl.MaxTerm + 1)} {
		expectDepends(t, "no term", []impl.Event{{Register: 1, Measure: "a"}, {Register: 2, Measure: noTerm}}, 6, 0, 1)
		expectDepends(t, "no term", []impl.Event{{Register: 1, Measure: "a"}, {Register: 2, Measure: noTerm}}, 2, 0)
	}
	expectDepends(t, "what does not fold", stepsOf(impl.MaxEvents, inThree), 247)
	expectDepends(t, "loads out of turn", []impl.Event{{Register: 1, Measure: "(hash n5 a n1)"}}, 2, 0)
}

func TestDependsOfWrongArguments(t *testing.T) {
	events := stepsOf(3, inTurn)
	for _, mask := range []int64{0, -1, 256, 257, -255, 511, math.MinInt64, math.MaxInt64, 1<<32 + 1} {
		expectNoDepends(t, "no mask", events, mask)
		expectNoDepends(t, "no mask", nil, mask)
	}
	for _, mask := range []int64{1, 2, 128, 255} {
		expectNoDepends(t, "an event too many", stepsOf(impl.MaxEvents+1, inTurn), mask)
		for _, register := range []int64{-1, 8, 63, 64, math.MinInt64, math.MaxInt64} {
			for at := range 4 {
				expectNoDepends(t, "no register", slices.Insert(stepsOf(3, inTurn), at, impl.Event{Register: register, Measure: "a"}), mask)
			}
		}
	}
}
