package tests

import (
	"math"
	"math/rand"
	"slices"
	"strings"
	"testing"

	"loop.example/g00082/impl"
)

// measured is MeasureOf, as the document tells it.
func measured(layer int64, image impl.Image) string {
	return "(hash " + nameOf(layer) + " " + image.Name + " " + nameOf(image.Version) + ")"
}

func loadOf(layer int64, image impl.Image) impl.Event {
	return impl.Event{Register: layer % 8, Measure: measured(layer, image)}
}

// folded is Fold, as the document tells it, of events that are right.
func folded(events []impl.Event) []string {
	regs := slices.Repeat([]string{"reset"}, 8)
	for _, e := range events {
		regs[e.Register] = "(hash " + regs[e.Register] + " " + e.Measure + ")"
	}
	return regs
}

func someImages(n int) []impl.Image {
	var images []impl.Image
	for i := range n {
		images = append(images, impl.Image{Name: nameOf(int64(i)), Version: int64(100 + i)})
	}
	return images
}

// loadsOf are the events of a device that only loads these.
func loadsOf(images []impl.Image) []impl.Event {
	var events []impl.Event
	for layer, image := range images {
		events = append(events, loadOf(int64(layer), image))
	}
	return events
}

func sameDevice(a impl.Device, b impl.Device) bool {
	return a.Name == b.Name && sameRoot(a.Root, b.Root) && sameVault(a.Vault, b.Vault) && slices.Equal(a.Loaded, b.Loaded) && slices.Equal(a.Log, b.Log)
}

// downDevice has a change of its Vault under way, so that it shows who meddles with it.
func downDevice() impl.Device {
	return impl.Device{Name: "dev", Root: downRoot(3, 1), Vault: underWay(vaultOf(2, 5), 2, sealAt(5, "!new"))}
}

func upDevice(loaded []impl.Image, log []impl.Event) impl.Device {
	d := downDevice()
	d.Root, d.Loaded, d.Log = upRoot(3, folded(log)), loaded, log
	return d
}

func withNamed(d impl.Device, name string) impl.Device {
	d.Name = name
	return d
}

func withRoot(d impl.Device, r impl.Root) impl.Device {
	d.Root = r
	return d
}

func withVault(d impl.Device, v impl.Vault) impl.Device {
	d.Vault = v
	return d
}

func withRegs(d impl.Device, regs []string) impl.Device {
	d.Root.Regs = regs
	return d
}

func withRun(d impl.Device, loaded []impl.Image, log []impl.Event) impl.Device {
	d.Loaded, d.Log = loaded, log
	return d
}

func rightImages() []impl.Image {
	return []impl.Image{{Name: "a"}, {Name: "abcdefghijkl", Version: 7}, {Name: "z9", Version: impl.MaxNumber}, {Name: "reset", Version: 1}, {Name: "n1", Version: 30}}
}

func wrongImages() []impl.Image {
	wrong := []impl.Image{{}, {Version: -1}}
	for _, name := range []string{"", "abcdefghijklm", "A", "9a", "a b", " a", "a ", "!k", "(hash a)", "a\n", "a\x00"} {
		wrong = append(wrong, impl.Image{Name: name, Version: 1})
	}
	for _, version := range []int64{-1, impl.MaxNumber + 1, math.MinInt64, math.MaxInt64} {
		wrong = append(wrong, impl.Image{Name: "a", Version: version})
	}
	return wrong
}

func TestMeasureOf(t *testing.T) {
	for _, layer := range []int64{0, 1, 7, 8, 10, impl.MaxLayer} {
		for _, image := range rightImages() {
			if m, ok := impl.MeasureOf(layer, image); !ok || m != measured(layer, image) {
				t.Error(layer, image, m, ok)
			}
		}
		for _, image := range wrongImages() {
			if m, ok := impl.MeasureOf(layer, image); ok || m != "" {
				t.Error("wrong image", layer, image, m)
			}
		}
	}
	for _, layer := range []int64{-1, impl.MaxLayer + 1, math.MinInt64, math.MaxInt64} {
		for _, image := range append(rightImages(), wrongImages()...) {
			if m, ok := impl.MeasureOf(layer, image); ok || m != "" {
				t.Error("wrong layer", layer, image, m)
			}
		}
	}
	if m, _ := impl.MeasureOf(15, impl.Image{Name: "abcdefghijkl", Version: 1000000000}); m != "(hash n15 abcdefghijkl n1000000000)" {
		t.Error("greatest", m)
	}
}

func TestDeviceNew(t *testing.T) {
	for _, name := range []string{"a", "abcdefghijkl", "d0"} {
		for _, key := range []string{"!k", "!abcdefghijkl"} {
			d, ok := impl.DeviceNew(name, key)
			if want := (impl.Device{Name: name, Root: newRoot(t, key)}); !ok || !sameDevice(d, want) || !impl.DeviceOk(d) {
				t.Error(d, ok)
			}
		}
	}
	for _, c := range [][2]string{
		{"", "!k"}, {"A", "!k"}, {"abcdefghijklm", "!k"}, {"!k", "!k"}, {"(hash a)", "!k"}, {"9", "!k"},
		{"a", ""}, {"a", "k"}, {"a", "!"}, {"a", "!abcdefghijklm"}, {"a", "(pub !k)"}, {"a", "!!k"}, {"", ""},
	} {
		if d, ok := impl.DeviceNew(c[0], c[1]); ok || !sameDevice(d, impl.Device{}) {
			t.Error(c, d)
		}
	}
}

// wrongRuns are not right in what is loaded or in the log, or these two do not fit the root.
func wrongRuns() []impl.Device {
	images, log := someImages(3), []impl.Event{{Register: 1, Measure: "a"}, {Register: 1, Measure: "b"}, {Register: 7, Measure: "!c"}}
	wrong := []impl.Device{
		upDevice(someImages(impl.MaxLayer+2), log),
		upDevice(images, stepsOf(impl.MaxEvents+1, inTurn)),
		withRun(downDevice(), images, nil), withRun(downDevice(), nil, log), withRun(downDevice(), images, log),
		withRegs(upDevice(images, log), folded(log[:2])),
		withRegs(upDevice(images, log), folded(append(slices.Clone(log), log[2]))),
		withRegs(upDevice(images, log), folded([]impl.Event{log[1], log[0], log[2]})),
		withRegs(upDevice(images, log), folded([]impl.Event{log[0], log[1], {Register: 6, Measure: "!c"}})),
		withRegs(upDevice(images, log), impl.Cleared()),
		withRegs(upDevice(images, nil), folded(log)),
		withRegs(upDevice(nil, nil), folded(log)),
		withRegs(upDevice(nil, nil), nil),
		upDevice(images, stepsOf(impl.MaxDeep+1, inThree)),
		withRegs(upDevice(images, stepsOf(impl.MaxDeep+1, inThree)), folded(stepsOf(impl.MaxDeep, inThree))),
	}
	for _, image := range wrongImages() {
		for at := range 4 {
			wrong = append(wrong, upDevice(slices.Insert(someImages(3), at, image), log))
		}
	}
	for _, at := range []int64{-1, 8, math.MinInt64, math.MaxInt64} {
		wrong = append(wrong, withRun(upDevice(nil, nil), nil, []impl.Event{{Register: at, Measure: "a"}}))
	}
	for _, noTerm := range []string{"", "A", "a b", "(hash a", "a) (hash b"} {
		wrong = append(wrong, upDevice(images, append(slices.Clone(log), impl.Event{Register: 2, Measure: noTerm})), withRun(upDevice(nil, nil), nil, []impl.Event{{Register: 2, Measure: noTerm}}))
	}
	return wrong
}

// wrongDevices are not right, in all the ways that the document has.
func wrongDevices() []impl.Device {
	wrong := append(wrongRuns(), impl.Device{})
	for _, name := range []string{"", "A", "abcdefghijklm", "!k", "(hash a)", "a b", "9"} {
		wrong = append(wrong, withNamed(downDevice(), name), withNamed(upDevice(nil, nil), name))
	}
	for _, r := range wrongRoots() {
		wrong = append(wrong, withRoot(downDevice(), r))
		if r.Up && len(r.Regs) == 8 {
			wrong = append(wrong, withRegs(withRoot(upDevice(nil, nil), r), impl.Cleared()))
		}
	}
	for _, v := range wrongVaults() {
		wrong = append(wrong, withVault(downDevice(), v), withVault(upDevice(someImages(2), loadsOf(someImages(2))), v))
	}
	// What is wrong with the registers alone is right again when they are cleared.
	return slices.DeleteFunc(wrong, func(d impl.Device) bool { return sameDevice(d, upDevice(nil, nil)) })
}

func TestWrongDevices(t *testing.T) {
	for _, d := range wrongDevices() {
		if impl.DeviceOk(d) {
			t.Error("right", d)
		}
		for _, cut := range []int64{-1, 0, 3, 4, 6, math.MaxInt64} {
			if got, code := impl.Restart(d, cut); code != impl.RsBad || !sameDevice(got, impl.Device{}) {
				t.Error("restart", d, cut, got, code)
			}
		}
		for _, image := range []impl.Image{{Name: "a"}, {}} {
			if got, code := impl.Load(d, image); code != impl.LdDevice || !sameDevice(got, impl.Device{}) {
				t.Error("load", d, got, code)
			}
		}
		for _, at := range []int64{-1, 0, 7, 8} {
			for _, measure := range []string{"a", ""} {
				if got, code := impl.Note(d, at, measure); code != impl.LdDevice || !sameDevice(got, impl.Device{}) {
					t.Error("note", d, got, code)
				}
			}
		}
		if impl.Trusted(d, d.Loaded) {
			t.Error("trusted", d)
		}
	}
}

func TestRightDevices(t *testing.T) {
	most := someImages(impl.MaxLayer + 1)
	right := []impl.Device{
		downDevice(), upDevice(nil, nil), withRun(withRegs(downDevice(), []string{}), []impl.Image{}, []impl.Event{}),
		upDevice(nil, stepsOf(impl.MaxEvents, inTurn)), upDevice(most, stepsOf(impl.MaxEvents, inTurn)),
		upDevice(most, nil), upDevice(most, loadsOf(most)), upDevice(rightImages(), nil),
		upDevice([]impl.Image{{Name: "a"}, {Name: "a"}}, loadsOf(someImages(3))),
		upDevice(nil, stepsOf(impl.MaxDeep, inThree)),
		upDevice(nil, []impl.Event{{Register: 0, Measure: termOf(impl.MaxTerm - len("(hash reset )"))}, {Register: 7, Measure: nested(impl.MaxDeep-1, "!a")}}),
		withNamed(downDevice(), "abcdefghijkl"), withNamed(upDevice(nil, nil), "z9"),
		withRoot(downDevice(), downRoot(impl.MaxNumber, impl.MaxNumber)),
	}
	for _, v := range slices.Concat(statesOf(vaultOf(2, 5), sealAt(3, "a")), []impl.Vault{{}, underWay(impl.Vault{}, 1, impl.Seal{})}) {
		right = append(right, withVault(downDevice(), v), withVault(upDevice(most, loadsOf(most)), v))
	}
	for _, d := range right {
		if !impl.DeviceOk(d) {
			t.Error("not right", d)
		}
	}
}

// A mendCase is a Vault ahead of Mend and behind each of its writes.
type mendCase []impl.Vault

func mendCases() []mendCase {
	all := []mendCase{{{}}, {vaultOf(0, 7)}}
	for _, s := range []impl.Seal{sealAt(3, "!new"), sealAt(5, "!new"), {Slot: 2}, {}} {
		states := statesOf(vaultOf(2, 5), s)
		all = append(all, states[:1], mendCase{states[1], states[0]}, states[2:], mendCase{states[3], states[3], states[4]})
	}
	return all
}

// A bootCase is a Root whose number and count stand, and the place of the copy that does not.
type bootCase struct {
	root                 impl.Root
	other, number, count int64
}

func bootCases() []bootCase {
	second := impl.Root{Key: "!key", Boots: twoCopies(copyWords(4, 0, 8), copyWords(5, 0, 9))}
	return []bootCase{
		{downRoot(0, 1), 3, 0, 1}, {downRoot(7, 3), 3, 7, 3}, {second, 0, 9, 5},
		{downRoot(impl.MaxNumber-1, 1), 3, impl.MaxNumber - 1, 1}, {downRoot(2, impl.MaxNumber-1), 3, 2, impl.MaxNumber - 1},
	}
}

// restarted is what a Restart with a cut has to leave, and its code.
func restarted(name string, b bootCase, m mendCase, cut int64) (impl.Device, int64) {
	d := impl.Device{Name: name, Root: resetOf(b.root, b.other, b.number, b.count, cut), Vault: m[0]}
	if cut < resetWrites {
		return d, impl.RsCut
	}
	last := int64(len(m)) - 1
	left := min(cut-resetWrites, last)
	d.Vault = m[left]
	if left < last {
		d.Root.Up, d.Root.Regs = false, nil
		return d, impl.RsCut
	}
	return d, impl.RsUp
}

func expectRestarts(t *testing.T, d impl.Device, b bootCase, m mendCase) {
	t.Helper()
	for _, cut := range allCuts(resetWrites + 2) {
		want, wantCode := restarted(d.Name, b, m, cut)
		got, code := impl.Restart(d, cut)
		if code != wantCode || !sameDevice(got, want) || !impl.DeviceOk(got) {
			t.Error("restart", d, cut, got, code, want, wantCode)
		}
	}
	for _, cut := range []int64{-1, -2, math.MinInt64} {
		if got, code := impl.Restart(d, cut); code != impl.RsBad || !sameDevice(got, impl.Device{}) {
			t.Error("cut below 0", d, cut, got, code)
		}
	}
}

func TestRestart(t *testing.T) {
	if !slices.Equal([]int64{impl.RsUp, impl.RsBad, impl.RsCut}, []int64{0, 1, 2}) {
		t.Error("numbers of the codes")
	}
	for _, b := range bootCases() {
		for _, m := range mendCases() {
			down := impl.Device{Name: "abcdefghijkl", Root: b.root, Vault: m[0]}
			expectRestarts(t, down, b, m)
			for _, log := range [][]impl.Event{nil, loadsOf(someImages(3)), stepsOf(impl.MaxEvents, inTurn)} {
				up := withRun(down, someImages(3), log)
				up.Root.Up, up.Root.Regs = true, folded(log)
				expectRestarts(t, up, b, m)
			}
		}
	}
}

func TestRestartThatCannotBe(t *testing.T) {
	for _, r := range []impl.Root{downRoot(impl.MaxNumber, 1), downRoot(3, impl.MaxNumber), downRoot(impl.MaxNumber, impl.MaxNumber)} {
		for _, m := range mendCases() {
			up := r
			up.Up, up.Regs = true, impl.Cleared()
			for _, d := range []impl.Device{{Name: "dev", Root: r, Vault: m[0]}, {Name: "dev", Root: up, Vault: m[0], Loaded: someImages(1)}} {
				if !impl.DeviceOk(d) {
					t.Error("it is right", d)
				}
				for _, cut := range append(cuts, -1) {
					if got, code := impl.Restart(d, cut); code != impl.RsBad || !sameDevice(got, impl.Device{}) {
						t.Error("restart", d, cut, got, code)
					}
				}
			}
		}
	}
}

// asItIs is the Device that a Load or a Note with such a code leaves, where only LdOk changes it to what is wanted.
func asItIs(d impl.Device, want impl.Device, code int64) impl.Device {
	switch code {
	case impl.LdOk:
		return want
	case impl.LdDevice:
		return impl.Device{}
	}
	return d
}

func withEvent(d impl.Device, e impl.Event) impl.Device {
	d.Log = append(slices.Clone(d.Log), e)
	d.Root.Regs = folded(d.Log)
	return d
}

func expectLoad(t *testing.T, what string, d impl.Device, image impl.Image, wantCode int64) impl.Device {
	t.Helper()
	want := d
	if wantCode == impl.LdOk {
		want = withEvent(d, loadOf(int64(len(d.Loaded)), image))
		want.Loaded = append(slices.Clone(d.Loaded), image)
	}
	want = asItIs(d, want, wantCode)
	got, code := impl.Load(d, image)
	if code != wantCode || !sameDevice(got, want) {
		t.Errorf("%s: load %v: got %v %d, want %v %d", what, image, got, code, want, wantCode)
	}
	return got
}

func expectNote(t *testing.T, what string, d impl.Device, at int64, measure string, wantCode int64) impl.Device {
	t.Helper()
	want := d
	if wantCode == impl.LdOk {
		want = withEvent(d, impl.Event{Register: at, Measure: measure})
	}
	want = asItIs(d, want, wantCode)
	got, code := impl.Note(d, at, measure)
	if code != wantCode || !sameDevice(got, want) {
		t.Errorf("%s: note %d %.99q: got %v %d, want %v %d", what, at, measure, got, code, want, wantCode)
	}
	return got
}

func TestLoadOfEachLayer(t *testing.T) {
	d := upDevice(nil, nil)
	for layer, image := range someImages(impl.MaxLayer + 1) {
		d = expectLoad(t, "a layer", d, image, impl.LdOk)
		if e := d.Log[layer]; e.Register != int64(layer)%8 || e.Measure != measured(int64(layer), image) {
			t.Error("event", layer, e)
		}
	}
	for _, c := range []struct {
		layer, register int64
		measure         string
	}{{0, 0, "(hash n0 n0 n100)"}, {7, 7, "(hash n7 n7 n107)"}, {8, 0, "(hash n8 n8 n108)"}, {15, 7, "(hash n15 n15 n115)"}} {
		if d.Log[c.layer] != (impl.Event{Register: c.register, Measure: c.measure}) {
			t.Error(c, d.Log[c.layer])
		}
	}
	if d.Root.Regs[7] != "(hash (hash reset (hash n7 n7 n107)) (hash n15 n15 n115))" {
		t.Error("registers", d.Root.Regs)
	}
	expectLoad(t, "no room for it", d, impl.Image{Name: "a"}, impl.LdFull)
	expectLoad(t, "an image again", upDevice(someImages(1), loadsOf(someImages(1))), someImages(1)[0], impl.LdOk)
	for _, image := range rightImages() {
		expectLoad(t, "any image", upDevice(someImages(9), nil), image, impl.LdOk)
	}
}

func TestLoadCodes(t *testing.T) {
	if !slices.Equal([]int64{impl.LdOk, impl.LdDevice, impl.LdDown, impl.LdImage, impl.LdFull, impl.LdLog}, []int64{0, 1, 2, 3, 4, 5}) || impl.MaxLayer != 15 {
		t.Error("numbers of the codes")
	}
	good := impl.Image{Name: "a"}
	most, all := someImages(impl.MaxLayer+1), stepsOf(impl.MaxEvents, inTurn)
	expectLoad(t, "wrong device", withRun(downDevice(), most, nil), good, impl.LdDevice)
	expectLoad(t, "wrong device", withNamed(upDevice(most, all), ""), good, impl.LdDevice)
	expectLoad(t, "down", downDevice(), good, impl.LdDown)
	off := upDevice(nil, nil)
	off.Root = impl.PowerOff(off.Root)
	expectLoad(t, "switched off", off, good, impl.LdDown)
	for _, image := range wrongImages() {
		expectLoad(t, "wrong device, wrong image", impl.Device{}, image, impl.LdDevice)
		expectLoad(t, "down, wrong image", downDevice(), image, impl.LdDown)
		expectLoad(t, "wrong image", upDevice(someImages(2), all[:2]), image, impl.LdImage)
		expectLoad(t, "wrong image, full", upDevice(most, nil), image, impl.LdImage)
		expectLoad(t, "wrong image, no room in the log", upDevice(nil, all), image, impl.LdImage)
	}
	expectLoad(t, "full", upDevice(most, nil), good, impl.LdFull)
	expectLoad(t, "full, no room in the log", upDevice(most, all), good, impl.LdFull)
	expectLoad(t, "no room in the log", upDevice(nil, all), good, impl.LdLog)
	expectLoad(t, "no room in the log", upDevice(most[:impl.MaxLayer], all), good, impl.LdLog)
	last := expectLoad(t, "the last event", upDevice(most[:impl.MaxLayer-1], all[:impl.MaxEvents-1]), good, impl.LdOk)
	expectLoad(t, "one event more", last, good, impl.LdLog)
	expectLoad(t, "the last layer", upDevice(most[:impl.MaxLayer], all[:impl.MaxEvents-1]), good, impl.LdOk)
}

func TestLoadIntoARegisterThatIsFull(t *testing.T) {
	good := impl.Image{Name: "a"}
	deep := upDevice(someImages(3), stepsOf(impl.MaxDeep, inThree))
	expectLoad(t, "a bracket too many", deep, good, impl.LdLog)
	expectLoad(t, "its neighbour has room", withRun(deep, someImages(4), deep.Log), good, impl.LdOk)
	expectLoad(t, "the same register again", withRun(deep, someImages(11), deep.Log), good, impl.LdLog)
	expectLoad(t, "full comes ahead", withRun(deep, someImages(16), deep.Log), good, impl.LdFull)
	expectLoad(t, "the last bracket", upDevice(someImages(11), stepsOf(impl.MaxDeep-1, inThree)), good, impl.LdOk)
	room := impl.MaxTerm - len("(hash (hash reset ) (hash n3 a n0))")
	for over := range 2 {
		long := upDevice(someImages(3), []impl.Event{{Register: 3, Measure: termOf(room + over)}})
		expectLoad(t, "bytes", long, good, []int64{impl.LdOk, impl.LdLog}[over])
	}
}

func TestNote(t *testing.T) {
	before := upDevice(someImages(2), loadsOf(someImages(2)))
	for at := range int64(8) {
		for _, measure := range []string{"x", "!k", "(hash a !b)", "(sign !k (pair a b))", measured(at, impl.Image{Name: "a"}), "reset"} {
			d := expectNote(t, "a note", before, at, measure, impl.LdOk)
			expectNote(t, "once more", d, at, measure, impl.LdOk)
		}
	}
	expectNote(t, "nothing runs", upDevice(nil, nil), 3, "x", impl.LdOk)
	expectNote(t, "all that can be loaded", upDevice(someImages(impl.MaxLayer+1), nil), 3, "x", impl.LdOk)
}

func TestNoteCodes(t *testing.T) {
	all, up := stepsOf(impl.MaxEvents, inTurn), upDevice(someImages(2), loadsOf(someImages(2)))
	off := up
	off.Root, off.Loaded, off.Log = impl.PowerOff(up.Root), nil, nil
	for _, d := range []impl.Device{{}, withNamed(up, ""), withRun(downDevice(), nil, all)} {
		for _, at := range []int64{-1, 0, 7, 8} {
			expectNote(t, "wrong device", d, at, "a", impl.LdDevice)
			expectNote(t, "wrong device, no term", d, at, "A", impl.LdDevice)
		}
	}
	for _, d := range []impl.Device{downDevice(), off} {
		for _, at := range []int64{-1, 0, 7, 8} {
			expectNote(t, "down", d, at, "a", impl.LdDown)
			expectNote(t, "down, no term", d, at, "A", impl.LdDown)
		}
	}
	for _, d := range []impl.Device{up, upDevice(nil, nil), upDevice(nil, all)} {
		for _, at := range []int64{-1, 8, math.MinInt64, math.MaxInt64} {
			expectNote(t, "no register", d, at, "a", impl.LdImage)
			expectNote(t, "no register, no term", d, at, "", impl.LdImage)
		}
		for _, noTerm := range []string{"", "A", "a b", "(hash a", "a) (hash b", nested(impl.MaxDeep+1, "a"), termOf(impl.MaxTerm + 1)} {
			expectNote(t, "no term", d, 0, noTerm, impl.LdImage)
			expectNote(t, "no term", d, 7, noTerm, impl.LdImage)
		}
	}
	expectNote(t, "no room in the log", upDevice(nil, all), 3, "a", impl.LdLog)
	expectNote(t, "no room in the log, all loaded", upDevice(someImages(16), all), 3, "a", impl.LdLog)
	last := expectNote(t, "the last event", upDevice(nil, all[:impl.MaxEvents-1]), 7, "a", impl.LdOk)
	expectNote(t, "one event more", last, 0, "a", impl.LdLog)
}

func TestNoteInARegisterThatIsFull(t *testing.T) {
	deep := upDevice(nil, stepsOf(impl.MaxDeep-1, inThree))
	expectNote(t, "brackets of the measure", deep, 3, nested(impl.MaxDeep-1, "a"), impl.LdOk)
	expectNote(t, "brackets of the measure", deep, 3, nested(impl.MaxDeep, "a"), impl.LdLog)
	deep = expectNote(t, "the last bracket", deep, 3, "a", impl.LdOk)
	expectNote(t, "a bracket too many", deep, 3, "a", impl.LdLog)
	expectNote(t, "its neighbour has room", deep, 4, "a", impl.LdOk)
	room := impl.MaxTerm - len("(hash reset )")
	expectNote(t, "a byte too many", upDevice(nil, nil), 0, termOf(room+1), impl.LdLog)
	expectNote(t, "the longest term", upDevice(nil, nil), 0, termOf(impl.MaxTerm), impl.LdLog)
	long := expectNote(t, "the last byte", upDevice(nil, nil), 0, termOf(room), impl.LdOk)
	expectNote(t, "no byte left", long, 0, "a", impl.LdLog)
	expectNote(t, "its neighbour has room", long, 1, termOf(room), impl.LdOk)
}

func TestTrusted(t *testing.T) {
	images := someImages(3)
	up := upDevice(images, loadsOf(images))
	for what, c := range map[string]struct {
		device impl.Device
		listed []impl.Image
		want   bool
	}{
		"all listed":         {up, images, true},
		"in another order":   {up, []impl.Image{images[2], images[0], images[1]}, true},
		"more listed":        {up, someImages(90), true},
		"listed twice":       {up, append(someImages(3), images...), true},
		"loaded twice":       {upDevice([]impl.Image{images[0], images[0]}, nil), images[:1], true},
		"one alone":          {upDevice(images[:1], nil), images[:1], true},
		"all there can be":   {upDevice(someImages(16), nil), someImages(16), true},
		"listed wrong ones":  {up, append(wrongImages(), images...), true},
		"nothing listed":     {up, nil, false},
		"nothing loaded":     {upDevice(nil, nil), images, false},
		"nothing at all":     {upDevice(nil, nil), nil, false},
		"first not listed":   {up, images[1:], false},
		"last not listed":    {up, images[:2], false},
		"another version":    {up, []impl.Image{images[0], images[1], {Name: images[2].Name, Version: images[2].Version + 1}}, false},
		"another name":       {up, []impl.Image{images[0], images[1], {Name: "other", Version: images[2].Version}}, false},
		"name of another":    {up, []impl.Image{images[0], images[1], {Name: images[0].Name, Version: images[2].Version}}, false},
		"down":               {downDevice(), images, false},
		"down, though it is": {withRun(downDevice(), images, nil), images, false},
		"no fold of the log": {withRegs(up, impl.Cleared()), images, false},
		"not right":          {withNamed(up, ""), images, false},
		"wrong ones alike":   {upDevice([]impl.Image{{}}, nil), []impl.Image{{}}, false},
		"the zero value":     {impl.Device{}, images, false},
	} {
		if impl.Trusted(c.device, c.listed) != c.want {
			t.Error(what)
		}
	}
}

func someImage(r *rand.Rand) impl.Image {
	return impl.Image{Name: pick(r, "boot", "core", "app", "abcdefghijkl"), Version: r.Int63n(4)}
}

// Promise 7: what is loaded by a device that was started anew is in its log in order, and its registers are the fold of it; a reset leaves nothing of it.
func TestWhatIsLoadedIsInTheLog(t *testing.T) {
	r := rand.New(rand.NewSource(14))
	for range 200 {
		d, _ := impl.DeviceNew("dev", "!k")
		for boots := int64(1); boots <= 3; boots++ {
			next, code := impl.Restart(d, resetWrites)
			if want := (impl.Device{Name: "dev", Root: next.Root}); code != impl.RsUp || !sameDevice(next, want) || !next.Root.Up || impl.BootsOf(next.Root) != boots {
				t.Fatal("something is left", next, code)
			}
			expect(t, "cleared", next.Root.Regs, impl.Cleared()...)
			d = runSome(t, r, next)
		}
	}
}

// runSome loads and notes, and holds the log against what was asked for.
func runSome(t *testing.T, r *rand.Rand, d impl.Device) impl.Device {
	t.Helper()
	var images []impl.Image
	var log []impl.Event
	for range r.Intn(25) {
		var code int64
		e := impl.Event{Register: r.Int63n(10) - 1, Measure: someTerm(r, 2)}
		if r.Intn(2) == 0 {
			d, code = impl.Note(d, e.Register, e.Measure)
		} else {
			image := someImage(r)
			e = loadOf(int64(len(images)), image)
			d, code = impl.Load(d, image)
			if code == impl.LdOk {
				images = append(images, image)
			}
		}
		if code == impl.LdOk {
			log = append(log, e)
		}
	}
	if !slices.Equal(d.Log, log) || !slices.Equal(d.Loaded, images) || !impl.DeviceOk(d) {
		t.Fatal("log", d, log, images)
	}
	regs, ok := impl.Fold(d.Log)
	if !ok || impl.Trusted(d, images) != (len(images) > 0) {
		t.Error("fold", d, ok)
	}
	expect(t, "registers", d.Root.Regs, regs...)
	return d
}

// A reset that is cut leaves nothing of what ran either, however often it is cut.
func TestCutResetsLeaveNothing(t *testing.T) {
	r := rand.New(rand.NewSource(15))
	for range 300 {
		v := someVault(r)
		s := someSeal(r, r.Int63n(impl.MaxSeals))
		d := withVault(upDevice(someImages(2), loadsOf(someImages(2))), underWay(v, 2, s))
		boots := int64(3)
		for range r.Intn(6) {
			cut := r.Int63n(resetWrites + 2)
			next, code := impl.Restart(d, cut)
			if cut >= resetWrites {
				boots++
			}
			if code != impl.RsCut || next.Root.Up || len(next.Root.Regs)+len(next.Loaded)+len(next.Log) != 0 || impl.BootsOf(next.Root) != boots {
				t.Fatal("cut", cut, next, code)
			}
			d = next
		}
		d, code := impl.Restart(d, resetWrites+2)
		if code != impl.RsUp || impl.BootsOf(d.Root) != boots+1 || !sameVault(d.Vault, impl.Vault{Seals: withChange(v.Seals, s)}) {
			t.Fatal("done", d, code)
		}
	}
}

// A secret that is sealed to what was loaded comes back when just that is loaded again, and not otherwise.
func TestSealedToWhatWasLoaded(t *testing.T) {
	images := someImages(3)
	load := func(d impl.Device, list ...impl.Image) impl.Device {
		d, _ = impl.Restart(d, resetWrites)
		for _, image := range list {
			d = expectLoad(t, "started anew", d, image, impl.LdOk)
		}
		return d
	}
	d, _ := impl.DeviceNew("dev", "!k")
	d = load(d, images...)
	d.Vault, _, _ = impl.SealNow(d.Vault, d.Root.Regs, 4, 7, "!s", putWrites)
	for _, c := range []struct {
		list   []impl.Image
		secret string
		code   int64
	}{{images, "!s", impl.UsOk}, {images[:2], "", impl.UsState}, {[]impl.Image{images[1], images[0], images[2]}, "", impl.UsState}, {append(slices.Clone(images), images...), "!s", impl.UsOk}} {
		d = load(d, c.list...)
		expectUnsealed(t, strings.Repeat("image ", len(c.list)), d.Vault, d.Root.Regs, 4, c.secret, c.code)
	}
}
