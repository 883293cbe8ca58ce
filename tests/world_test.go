package tests

import (
	"math"
	"slices"
	"strconv"
	"testing"

	"loop.example/g00082/impl"
)

func withDevices(w impl.World, devices ...impl.Device) impl.World {
	w.Devices = devices
	return w
}

func withDeviceAt(w impl.World, at int64, d impl.Device) impl.World {
	w.Devices = slices.Clone(w.Devices)
	w.Devices[at] = d
	return w
}

func withListed(w impl.World, images ...impl.Image) impl.World {
	w.Listed = images
	return w
}

func withVerifier(w impl.World, v impl.Verifier) impl.World {
	w.Verifier = v
	return w
}

func withTable(w impl.World, x impl.Table) impl.World {
	w.Verifier.Table = x
	return w
}

func withRelying(w impl.World, y impl.Relying) impl.World {
	w.Relying = y
	return w
}

func withNet(w impl.World, n impl.Net) impl.World {
	w.Net = n
	return w
}

func withFacts(w impl.World, facts ...impl.Fact) impl.World {
	w.Facts = facts
	return w
}

func withFact(w impl.World, f impl.Fact) impl.World {
	w.Facts = append(slices.Clone(w.Facts), f)
	return w
}

func keyed(d impl.Device, key string) impl.Device {
	d.Root.Key = key
	return d
}

// deviceAs is a device of a world: its name and its key are those of the place.
func deviceAs(at int, d impl.Device) impl.Device {
	return keyed(withNamed(d, "d"+strconv.Itoa(at)), "!k"+strconv.Itoa(at))
}

var strange = impl.Image{Name: "strange", Version: 7}

// aWorld has a device that loaded what is listed, one that loaded something else, too, with a change of its Vault under way, and one that is not up.
// The nonces of its verifier are those of verifierFor.
func aWorld() impl.World {
	images := someImages(3)
	other := append(images[:2:2], strange)
	d0 := withVault(upDevice(images, among(loadsOf(images))), vaultOf(2, 5))
	return impl.World{
		Devices:  []impl.Device{deviceAs(0, d0), deviceAs(1, upDevice(other, loadsOf(other))), deviceAs(2, downDevice())},
		Listed:   images,
		Verifier: verifierFor(images),
		Relying:  relyingOf([]string{"(pub !v)"}, nonceTexts(5, 8), nonceTexts(1)),
		Net:      netOf([]string{"!s", nonceText(5), nonceText(8)}, []string{nonceText(5), "x", nonceText(8)}),
		Facts:    []impl.Fact{{Kind: impl.FcLoad, At: 1, Images: []impl.Image{strange}}, {Kind: impl.FcAsk, Number: 97, Text: nonceText(8)}, {Kind: 77, Good: true, Images: someImages(2)}},
	}
}

// newWorldOf is WorldNew, as the document tells it.
func newWorldOf(t *testing.T, keys []string, listed []impl.Image, policy impl.Policy) impl.World {
	t.Helper()
	w := impl.World{Listed: listed, Verifier: impl.Verifier{Secret: "!v", Root: "(pub !root)", Policy: policy, Table: impl.Table{Secret: "!v"}}, Relying: impl.Relying{Issuers: []string{"(pub !v)"}}}
	for at, key := range keys {
		w.Devices = append(w.Devices, impl.Device{Name: "d" + strconv.Itoa(at), Root: newRoot(t, key)})
	}
	return w
}

func rightWorlds() []impl.World {
	w := aWorld()
	d := w.Devices
	right := []impl.World{
		w, withDevices(w), withDevices(w, d[0]), withDevices(w, d[2], d[1], d[0]), withDevices(w, append(slices.Clone(d), deviceAs(3, upDevice(nil, nil)))...),
		withDevices(w, withNamed(d[0], "abcdefghijkl"), keyed(d[1], "!v"), keyed(d[2], "!abcdefghijkl")),
		withListed(w), withListed(w, strange, strange), withListed(w, someImages(impl.MaxRows)...), withListed(w, rightImages()...),
		withFacts(w), withFacts(w, make([]impl.Fact, impl.MaxFacts)...), withFacts(w, impl.Fact{Kind: -5, At: -1, Number: math.MinInt64, Text: "A", Images: wrongImages()}),
		{Verifier: verifierFor(nil)},
	}
	for _, v := range rightVerifiers() {
		right = append(right, withVerifier(w, v))
	}
	for _, y := range rightRelyings() {
		right = append(right, withRelying(w, y))
	}
	for _, n := range rightNets() {
		right = append(right, withNet(w, n))
	}
	return right
}

// wrongWorlds are not right, in all the ways that the document has; each differs in one thing from a right one.
func wrongWorlds() []impl.World {
	w := aWorld()
	d := w.Devices
	four := append(slices.Clone(d), deviceAs(3, downDevice()))
	wrong := []impl.World{
		{}, withDevices(w, append(four, deviceAs(4, downDevice()))...), withDevices(w, d[0], d[0]),
		withDevices(w, d[0], d[1], withNamed(d[2], "d0")), withDevices(w, d[0], withNamed(d[1], "d0")), withDevices(w, d[0], d[1], withNamed(d[2], "d1")), withDevices(w, append(slices.Clone(d), withNamed(four[3], "d2"))...),
		withDevices(w, d[0], d[1], keyed(d[2], "!k0")), withDevices(w, d[0], keyed(d[1], "!k0")), withDevices(w, d[0], d[1], keyed(d[2], "!k1")), withDevices(w, append(slices.Clone(d), keyed(four[3], "!k2"))...),
		withListed(w, someImages(impl.MaxRows+1)...), withListed(w, slices.Repeat([]impl.Image{strange}, impl.MaxRows+1)...),
		withFacts(w, make([]impl.Fact, impl.MaxFacts+1)...), withFacts(w, make([]impl.Fact, 10*impl.MaxFacts)...),
	}
	for _, image := range wrongImages() {
		for _, at := range []int{0, 1, 3} {
			wrong = append(wrong, withListed(w, slices.Insert(someImages(3), at, image)...))
		}
	}
	for i, other := range wrongDevices() {
		wrong = append(wrong, withDevices(w, slices.Insert(slices.Clone(d), i%4, other)...))
	}
	for _, v := range wrongVerifiers() {
		wrong = append(wrong, withVerifier(w, v))
	}
	for _, y := range wrongRelyings() {
		wrong = append(wrong, withRelying(w, y))
	}
	for _, n := range wrongNets() {
		wrong = append(wrong, withNet(w, n))
	}
	return wrong
}

func TestWhatWorldsAreRight(t *testing.T) {
	for _, w := range rightWorlds() {
		if given := spacious(w); !impl.WorldOk(given) || !sameToTheEnd(given, spacious(w)) {
			t.Error("it is right:", brief(w))
		}
	}
	for _, w := range wrongWorlds() {
		if given := spacious(w); impl.WorldOk(given) || !sameToTheEnd(given, spacious(w)) {
			t.Error("it is not right:", brief(w))
		}
	}
	if !slices.Equal([]int64{impl.WoOk, impl.WoBad, impl.WoKind, impl.WoAt, impl.WoFull, impl.WoRefused}, []int64{0, 1, 2, 3, 4, 5}) {
		t.Error("numbers of the codes")
	}
	if !slices.Equal([]int64{impl.AcRestart, impl.AcLoad, impl.AcNote, impl.AcAsk, impl.AcQuote, impl.AcShow, impl.AcTick, impl.AcAccept, impl.AcSteal}, []int64{1, 2, 3, 4, 5, 6, 7, 8, 9}) {
		t.Error("numbers of the actions")
	}
	if !slices.Equal([]int64{impl.FcRestart, impl.FcLoad, impl.FcNote, impl.FcAsk, impl.FcQuote, impl.FcVerdict, impl.FcAccept}, []int64{1, 2, 3, 4, 5, 6, 8}) {
		t.Error("numbers of the facts")
	}
	if impl.MaxDevices != 4 || impl.MaxFacts != 300 || impl.MaxActions != 200 {
		t.Error("limits")
	}
}

func expectNew(t *testing.T, what string, keys []string, listed []impl.Image, policy impl.Policy, want impl.World, wantOk bool) {
	t.Helper()
	k, l, p := spacious(keys), spacious(listed), spacious(policy)
	for range 2 {
		got, ok := impl.WorldNew(k, l, p)
		if other := unlike(got, want); ok != wantOk || other != "" || impl.WorldOk(got) != wantOk {
			t.Errorf("%s: keys %.200q, %s, %s: got %v; got and want: %s", what, keys, brief(listed), brief(policy), ok, other)
		}
		expectOwnMemory(t, what, got, k, l, p)
	}
	if !sameToTheEnd(k, spacious(keys)) || !sameToTheEnd(l, spacious(listed)) || !sameToTheEnd(p, spacious(policy)) {
		t.Error(what, "the arguments are", k, l, p)
	}
}

func TestWorldNew(t *testing.T) {
	keys := []string{"!k0", "!k1", "!x", "!abcdefghijkl"}
	for n := range len(keys) + 1 {
		for _, listed := range [][]impl.Image{nil, someImages(3), {strange, strange}, someImages(impl.MaxRows)} {
			for _, policy := range []impl.Policy{{}, aPolicy(), policyFor(someImages(3)), withNumber(aPolicy(), impl.MaxNumber), withRows(aPolicy(), refsOf(impl.MaxRows)...)} {
				expectNew(t, "a new world", keys[:n], listed, policy, newWorldOf(t, keys[:n], listed, policy), true)
			}
		}
	}
	for _, key := range []string{"!vv", "!mm", "!roots", "!d0", "!root1", "!a"} {
		expectNew(t, "a key", []string{key}, nil, impl.Policy{}, newWorldOf(t, []string{key}, nil, impl.Policy{}), true)
	}
}

func TestWorldNewThatIsRefused(t *testing.T) {
	images, policy := someImages(3), policyFor(someImages(3))
	for _, keys := range [][]string{{"!a", "!b", "!c", "!d", "!e"}, {"!a", "!a"}, {"!a", "!b", "!a"}, {"!a", "!b", "!c", "!b"}, slices.Repeat([]string{"!a"}, 1000)} {
		expectNew(t, "keys", keys, images, policy, impl.World{}, false)
	}
	for _, key := range append(slices.Clone(noSecrets), "!v", "!root", "!m", "v", "(pub !v)") {
		for at := range 4 {
			expectNew(t, "a key", slices.Insert([]string{"!a", "!b", "!c"}, at, key), images, policy, impl.World{}, false)
		}
		expectNew(t, "a key alone", []string{key}, nil, impl.Policy{}, impl.World{}, false)
	}
	for _, p := range wrongPolicies() {
		expectNew(t, "a policy", []string{"!a"}, images, p, impl.World{}, false)
		expectNew(t, "a policy", nil, nil, p, impl.World{}, false)
	}
	for _, image := range wrongImages() {
		expectNew(t, "an image", []string{"!a"}, append(someImages(3), image), policy, impl.World{}, false)
		expectNew(t, "an image", nil, []impl.Image{image}, impl.Policy{}, impl.World{}, false)
	}
	expectNew(t, "too many images", []string{"!a"}, someImages(impl.MaxRows+1), policy, impl.World{}, false)
}

func expectCerts(t *testing.T, what string, w impl.World, at int64, want ...impl.Cert) {
	t.Helper()
	given := spacious(w)
	for range 2 {
		got, ok := impl.CertsOf(given, at)
		if ok != (len(want) > 0) || !slices.Equal(got, want) {
			t.Errorf("%s: at %d: got %v %v, want %v", what, at, got, ok, want)
		}
		expectOwnMemory(t, what, got, given)
		clear(got)
	}
	if !sameToTheEnd(given, spacious(w)) {
		t.Error(what, "the world is", given)
	}
}

func TestCertsOf(t *testing.T) {
	for _, w := range rightWorlds() {
		for at, d := range w.Devices {
			expectCerts(t, "each device", w, int64(at), endorsed(d)...)
		}
		for _, at := range []int64{-1, int64(len(w.Devices)), 4, math.MinInt64, math.MaxInt64} {
			expectCerts(t, "no device", w, at)
		}
	}
	for _, w := range wrongWorlds() {
		expectCerts(t, "not right", w, 0)
		expectCerts(t, "not right", w, -1)
	}
	w := withDevices(aWorld(), keyed(withNamed(downDevice(), "abcdefghijkl"), "!abcdefghijkl"))
	expectCerts(t, "to the letter", w, 0,
		impl.Cert{Name: "maker", Key: "(pub !m)", From: 0, Until: 1000000000, Sign: "(sign !root (hash cert maker (pub !m) n0 n1000000000))"},
		impl.Cert{Name: "abcdefghijkl", Key: "(pub !abcdefghijkl)", From: 0, Until: 1000000000, Sign: "(sign !m (hash cert abcdefghijkl (pub !abcdefghijkl) n0 n1000000000))"})
	certs, _ := impl.CertsOf(w, 0)
	if key, code, at := impl.CheckChain("(pub !root)", certs, impl.MaxNumber); key != "(pub !abcdefghijkl)" || code != impl.CeOk || at != -1 {
		t.Error("a good chain", key, code, at)
	}
}
