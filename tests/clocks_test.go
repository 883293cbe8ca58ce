package tests

import (
	"math"
	"math/rand"
	"slices"
	"testing"

	"loop.example/g00082/impl"
)

var noTicks = []int64{-1, impl.MaxTicks + 1, math.MinInt64, math.MaxInt64}

func drift(rate float64, offset float64) impl.Drift {
	return impl.Drift{Rate: rate, Offset: offset}
}

// wrongClocks are not right, in all the ways that the document has.
func wrongClocks() []impl.Drift {
	wrong := []impl.Drift{{}, drift(minusZero, 1), drift(-least, 1), drift(-1, 1), drift(-greatest, 1)}
	for _, x := range append(unlikeNaNs(), infinite, -infinite) {
		wrong = append(wrong, drift(x, 1), drift(1, x), drift(x, x), drift(0, x))
	}
	return wrong
}

func rightClocks() []impl.Drift {
	return []impl.Drift{
		drift(2, 10), drift(1, 0), drift(1, minusZero), drift(0.1, -0.3), drift(0.1, -5e4), drift(1.0/3, 7), drift(1e-3, -1e3),
		drift(least, 0), drift(least, minusZero), drift(least, -1), drift(3*least, -7*least), drift(1e-20, 1), drift(1e-17, 1), drift(1e-13, 1e3), drift(1, 1e16), drift(1, -1e16), drift(0.7, 1e16),
		drift(greatest, 0), drift(greatest, -greatest), drift(1e308, 1e308), drift(1e308, -1e308), drift(1e303, 0), drift(1e302, greatest), drift(1, greatest), drift(1, -greatest),
	}
}

func TestShownAt(t *testing.T) {
	for _, c := range []struct {
		clock impl.Drift
		tick  int64
		want  float64
	}{
		{drift(2, 10), 0, 10}, {drift(2, 10), 5, 20}, {drift(2, 10), impl.MaxTicks, 2000010}, {drift(0.1, 0), 3, 0x1.3333333333334p-2}, {drift(1, 0), impl.MaxTicks, 1e6},
		{drift(least, 0), 0, 0}, {drift(least, 0), 7, 7 * least}, {drift(least, -1), impl.MaxTicks, -1}, {drift(least, -3*least), 2, -least}, {drift(least, -3*least), 3, 0},
		{drift(1, minusZero), 0, 0}, {drift(1, -7), 7, 0}, {drift(greatest, 0), 1, greatest}, {drift(greatest, 0), 2, infinite}, {drift(greatest, -greatest), 1, 0}, {drift(greatest, -greatest), 2, infinite},
		{drift(1e308, 1e308), 0, 1e308}, {drift(1e308, 1e308), 1, infinite}, {drift(1e308, 7e307), 1, 0x1.e42d130773b76p1023}, {drift(1, greatest), impl.MaxTicks, greatest},
		{drift(1, 1e16), 1, 1e16}, {drift(1, 1e16), 3, 1e16 + 4},
		// The product is rounded ahead of the sum; fused with it 0x1p-55 would be left.
		{drift(0.1, -0.3), 3, 0x1p-54},
	} {
		expectFloat(t, "shown", impl.ShownAt(c.clock, c.tick), c.want)
	}
	if rate := 0.1; math.FMA(rate, 3, -0.3) != 0x1p-55 {
		t.Error("fused it would be the same")
	}
	if impl.MaxTicks != 1000000 {
		t.Error("limits", impl.MaxTicks)
	}
}

func TestShownAtOfNoClockAndNoTick(t *testing.T) {
	for _, c := range wrongClocks() {
		for _, tick := range append(noTicks, 0, 1, impl.MaxTicks) {
			expectFloat(t, "no clock", impl.ShownAt(c, tick), noNumber)
		}
	}
	for _, c := range rightClocks() {
		for _, tick := range noTicks {
			expectFloat(t, "no tick", impl.ShownAt(c, tick), noNumber)
		}
	}
}

func TestShownAtToTheLastBit(t *testing.T) {
	r := rand.New(rand.NewSource(61))
	unlike := 0
	for range 20000 {
		rate, offset, tick := math.Abs(someKnown(r)), someKnown(r), r.Int63n(impl.MaxTicks+1)
		if rate == 0 {
			continue
		}
		want := offset + product(rate, float64(tick))
		expectFloat(t, "shown", impl.ShownAt(drift(rate, offset), tick), want)
		if !alike(want, math.FMA(rate, float64(tick), offset)) {
			unlike++
		}
	}
	if unlike < 100 {
		t.Error("few of them tell whether a product is fused", unlike)
	}
}

func expectTick(t *testing.T, c impl.Drift, shown float64, want int64) {
	t.Helper()
	if got := impl.TickAt(c, shown); got != want {
		t.Errorf("tick at %x of %x: got %d, want %d", shown, c, got, want)
	}
}

func TestTickAt(t *testing.T) {
	expectTick(t, drift(2, 10), 9, -1)
	expectTick(t, drift(2, 10), 0x1.3ffffffffffffp3, -1)
	expectTick(t, drift(2, 10), 10, 0)
	expectTick(t, drift(2, 10), 11, 0)
	expectTick(t, drift(2, 10), 0x1.7ffffffffffffp3, 0)
	expectTick(t, drift(2, 10), 12, 1)
	expectTick(t, drift(2, 10), 20, 5)
	expectTick(t, drift(2, 10), 21.9, 5)
	expectTick(t, drift(2, 10), 2000009, impl.MaxTicks-1)
	expectTick(t, drift(2, 10), 2000010, impl.MaxTicks)
	expectTick(t, drift(2, 10), 2000011, impl.MaxTicks)
	expectTick(t, drift(2, 10), greatest, impl.MaxTicks)
	expectTick(t, drift(1, 0), minusZero, 0)
	expectTick(t, drift(1, minusZero), minusZero, 0)
	expectTick(t, drift(1, 0), -least, -1)
	expectTick(t, drift(1, -7), 0, 7)
	// Where 0.1 times 3 shows, and just below it.
	expectTick(t, drift(0.1, 0), 0x1.3333333333334p-2, 3)
	expectTick(t, drift(0.1, 0), 0.3, 2)
}

func TestTickAtWhereManyShowTheSame(t *testing.T) {
	expectTick(t, drift(1e-23, 1), 1, impl.MaxTicks)
	expectTick(t, drift(1e-20, 1), 1, 11102)
	expectTick(t, drift(1e-20, 1), 0x1.fffffffffffffp-1, -1)
	expectTick(t, drift(least, -1), -1, impl.MaxTicks)
	expectTick(t, drift(1e-17, 1), 1, 11)
	expectTick(t, drift(1e-17, 1), 0x1.0000000000001p0, 33)
	expectTick(t, drift(1, 1e16), 1e16, 1)
	expectTick(t, drift(1, 1e16), 1e16+2, 2)
	expectTick(t, drift(1, 1e16), 1e16+4, 5)
	expectTick(t, drift(1, greatest), greatest, impl.MaxTicks)
	expectTick(t, drift(greatest, 0), 0, 0)
	expectTick(t, drift(greatest, 0), greatest, 1)
	expectTick(t, drift(greatest, -greatest), greatest, 1)
	expectTick(t, drift(1e308, 1e308), greatest, 0)
	expectTick(t, drift(1e303, 0), greatest, 179769)
	for _, c := range rightClocks() {
		expectTick(t, c, infinite, impl.MaxTicks)
		expectTick(t, c, -infinite, -1)
		for _, x := range unlikeNaNs() {
			expectTick(t, c, x, -1)
		}
	}
	for _, c := range wrongClocks() {
		for _, x := range append(risingEdges(), noNumber, 1e7) {
			expectTick(t, c, x, -1)
		}
	}
}

// expectLast holds TickAt to what the clock shows there, and one tick on.
func expectLast(t *testing.T, c impl.Drift, shown float64) {
	t.Helper()
	tick := impl.TickAt(c, shown)
	if tick < -1 || tick > impl.MaxTicks {
		t.Fatalf("tick at %x of %x: got %d", shown, c, tick)
	}
	if tick >= 0 && !(impl.ShownAt(c, tick) <= shown) {
		t.Errorf("tick at %x of %x: got %d, which shows %x", shown, c, tick, impl.ShownAt(c, tick))
	}
	if tick < impl.MaxTicks && !(impl.ShownAt(c, tick+1) > shown) {
		t.Errorf("tick at %x of %x: got %d, but %x is shown behind it", shown, c, tick, impl.ShownAt(c, tick+1))
	}
}

// Promise 16: a tick that is told of what a clock shows is the last one that shows at most that.
func TestTickAtIsTheLast(t *testing.T) {
	r := rand.New(rand.NewSource(62))
	for range 300 {
		clocks := rightClocks()
		if rate := math.Abs(someKnown(r)); rate > 0 {
			clocks = append(clocks, drift(rate, someKnown(r)))
		}
		for _, c := range clocks {
			at := pickTick(r)
			shown := impl.ShownAt(c, at)
			for _, x := range []float64{shown, math.Nextafter(shown, infinite), math.Nextafter(shown, -infinite), halfway(shown, impl.ShownAt(c, max(0, at-1))), someKnown(r)} {
				expectLast(t, c, x)
			}
			if impl.TickAt(c, shown) < at {
				t.Error("it is shown at", at, c)
			}
		}
	}
}

func pickTick(r *rand.Rand) int64 {
	return []int64{0, 1, 2, impl.MaxTicks - 1, impl.MaxTicks, r.Int63n(50), r.Int63n(impl.MaxTicks + 1), r.Int63n(impl.MaxTicks + 1)}[r.Intn(8)]
}

// The ways in which a fit is not to be rounded: a product fused with its sum, or the readings from the last one on.
var wrongFits = []string{"sum", "upper", "upper, the other way", "lower", "lower, the other way", "offset", "backwards"}

// fitted tells the fit as the document does, but for the one way that how names.
func fitted(ticks []int64, shown []float64, how string) impl.Drift {
	var x, y, xx, xy, n float64
	for at := range ticks {
		if how == "backwards" {
			at = len(ticks) - 1 - at
		}
		tick, s := float64(ticks[at]), shown[at]
		if !isKnown(s) {
			continue
		}
		n, x, y, xx = n+1, x+tick, y+s, xx+product(tick, tick)
		if how == "sum" {
			xy = math.FMA(tick, s, xy)
		} else {
			xy += product(tick, s)
		}
	}
	upper, lower := product(n, xy)-product(x, y), product(n, xx)-product(x, x)
	switch how {
	case "upper":
		upper = math.FMA(n, xy, -product(x, y))
	case "upper, the other way":
		upper = math.FMA(-x, y, product(n, xy))
	case "lower":
		lower = math.FMA(n, xx, -product(x, x))
	case "lower, the other way":
		lower = math.FMA(-x, x, product(n, xx))
	}
	rate := upper / lower
	if how == "offset" {
		return drift(rate, math.FMA(-rate, x, y)/n)
	}
	return drift(rate, (y-product(rate, x))/n)
}

func sameClock(a impl.Drift, b impl.Drift) bool {
	return alike(a.Rate, b.Rate) && alike(a.Offset, b.Offset)
}

func expectFit(t *testing.T, what string, ticks []int64, shown []float64, want impl.Drift, there bool) {
	t.Helper()
	if got, ok := impl.FitClock(ticks, shown); ok != there || !sameClock(got, want) {
		t.Errorf("%s: fit of %d %x: got %x %v, want %x %v", what, ticks, shown, got, ok, want, there)
	}
}

func expectNoFit(t *testing.T, what string, ticks []int64, shown ...float64) {
	t.Helper()
	expectFit(t, what, ticks, shown, impl.Drift{}, false)
}

func TestFitClock(t *testing.T) {
	expectFit(t, "two", []int64{0, 1}, []float64{10, 12}, drift(2, 10), true)
	expectFit(t, "two, the later one first", []int64{1, 0}, []float64{12, 10}, drift(2, 10), true)
	expectFit(t, "four on a line", []int64{0, 1, 2, 3}, []float64{10, 12, 14, 16}, drift(2, 10), true)
	expectFit(t, "three that are not", []int64{0, 1, 2}, []float64{0, 3, 3}, drift(1.5, 0.5), true)
	expectFit(t, "from 0", []int64{0, impl.MaxTicks}, []float64{0, impl.MaxTicks}, drift(1, 0), true)
	expectFit(t, "two of one tick beside another one", []int64{4, 4, 6}, []float64{1, 3, 6}, drift(2, -6), true)
	expectFit(t, "to the last bit", []int64{0, 10}, []float64{0.1, 0.2}, drift(0x1.47ae147ae1478p-7, 0x1.999999999999dp-4), true)
	expectFit(t, "the least rate", []int64{0, 1}, []float64{0, least}, drift(least, 0), true)
	expectFit(t, "a great one", []int64{0, 1}, []float64{-4e307, 4e307}, drift(8e307, -4e307), true)
	expectNoFit(t, "none", nil)
	expectNoFit(t, "one", []int64{3}, 7)
	expectNoFit(t, "one at 0", []int64{0}, 0)
}

func TestFitClockLeavesOutWhatIsNotKnown(t *testing.T) {
	for _, x := range append(unlikeNaNs(), infinite, -infinite) {
		expectFit(t, "some", []int64{9, 0, 1, 2, 7, 3}, []float64{x, 10, 12, x, x, 16}, drift(2, 10), true)
		expectFit(t, "all but two", []int64{5, 3, 0, 1, impl.MaxTicks}, []float64{x, x, 10, 12, x}, drift(2, 10), true)
		expectNoFit(t, "one is left", []int64{0, 1}, 10, x)
		expectNoFit(t, "none is left", []int64{0, 1, 2}, x, x, x)
		expectNoFit(t, "those of one tick are left", []int64{4, 4, 5}, 1, 2, x)
		for _, tick := range noTicks {
			expectNoFit(t, "no tick where it is not known", []int64{0, 1, tick}, 10, 12, x)
			expectNoFit(t, "no tick ahead of the others", []int64{tick, 0, 1}, x, 10, 12)
		}
	}
}

func TestFitClockThatIsRefused(t *testing.T) {
	for _, tick := range noTicks {
		expectNoFit(t, "no tick", []int64{0, 1, tick}, 10, 12, 14)
		expectNoFit(t, "no tick", []int64{tick, 1}, 10, 12)
	}
	expectNoFit(t, "fewer are shown", []int64{0, 1, 2}, 10, 12)
	expectNoFit(t, "more are shown", []int64{0, 1}, 10, 12, 14)
	expectNoFit(t, "nothing is shown", []int64{0, 1})
	expectNoFit(t, "ticks are lacking", nil, 10, 12)
	expectNoFit(t, "all of one tick", []int64{4, 4, 4}, 1, 2, 3)
	expectNoFit(t, "all of one tick, and alike", []int64{4, 4}, 1, 1)
	expectNoFit(t, "all of the tick 0", []int64{0, 0, 0}, 1, 2, 3)
	expectNoFit(t, "a rate of 0", []int64{0, 1, 2}, 5, 5, 5)
	expectNoFit(t, "a rate of 0, among noughts", []int64{0, 1}, 0, minusZero)
	expectNoFit(t, "a rate of 0, the ends alike", []int64{0, 1, 2}, 5, 9, 5)
	expectNoFit(t, "a rate below 0", []int64{0, 1}, 12, 10)
	expectNoFit(t, "a rate that is rounded to 0", []int64{0, impl.MaxTicks}, 0, least)
	expectNoFit(t, "sums that become an infinity", []int64{0, 1}, 0, greatest)
	expectNoFit(t, "a product that does", []int64{0, impl.MaxTicks}, 0, 1e303)
	expectNoFit(t, "all shown in one that does", []int64{0, 1, 2}, greatest, greatest, 1)
	expectNoFit(t, "two infinities", []int64{1, 2, 3, 4}, greatest, greatest, -greatest, -greatest)
	expectNoFit(t, "an offset that is none", []int64{1, 2}, -4e307, 4e307)
}

func readings(r *rand.Rand, size int, from int64, scale float64) ([]int64, []float64) {
	var ticks []int64
	var shown []float64
	for range size {
		tick := from + r.Int63n(impl.MaxTicks+1-from)
		ticks, shown = append(ticks, tick), append(shown, scale*(float64(tick)+3*r.NormFloat64()))
	}
	return ticks, shown
}

func TestFitClockOfMaxMarks(t *testing.T) {
	r := rand.New(rand.NewSource(63))
	ticks, shown := readings(r, impl.MaxMarks, 0, 0.1)
	expectFit(t, "as many as can be", ticks, shown, fitted(ticks, shown, ""), true)
	expectNoFit(t, "one more", append(ticks, 7), append(shown, 7)...)
	expectNoFit(t, "one more, that is not known", append(ticks, 7), append(shown, noNumber)...)
	expectNoFit(t, "many more", slices.Repeat(ticks, 3), slices.Repeat(shown, 3)...)
	few := slices.Repeat([]float64{noNumber}, impl.MaxMarks)
	few[3], few[70] = 3, 5
	expectFit(t, "few of which are known", ticks, few, fitted(ticks, few, ""), ticks[3] < ticks[70])
	for _, tick := range []int64{0, 1, 999999, impl.MaxTicks} {
		expectNoFit(t, "all of one tick", slices.Repeat([]int64{tick}, impl.MaxMarks-1), shown[1:]...)
	}
}

func TestFitClockToTheLastBit(t *testing.T) {
	r := rand.New(rand.NewSource(64))
	unlike := map[string]int{}
	for range 3000 {
		// With so many late ticks the sums have more than 53 bits.
		ticks, shown := readings(r, 97+r.Intn(3), 990000, 0.1)
		if r.Intn(2) == 0 {
			ticks, shown = readings(r, 2+r.Intn(9), 0, someKnown(r))
		}
		want := fitted(ticks, shown, "")
		there := isKnown(want.Rate) && isKnown(want.Offset) && want.Rate > 0
		if !there {
			want = impl.Drift{}
		}
		expectFit(t, "any", ticks, shown, want, there)
		for _, how := range wrongFits {
			if there && !sameClock(want, fitted(ticks, shown, how)) {
				unlike[how]++
			}
		}
	}
	for _, how := range wrongFits {
		if unlike[how] < 20 {
			t.Error("few of them tell", how, unlike[how])
		}
	}
}

func TestFresh(t *testing.T) {
	for _, c := range []struct {
		born, now, most float64
		want            bool
	}{
		{5, 8, 3, true}, {5, 8, 2, false}, {5, 8, 0x1.7ffffffffffffp1, false}, {9, 8, 3, false}, {5, 8, infinite, true}, {5, 8, greatest, true}, {9, 8, infinite, false},
		{5, 5, 0, true}, {5, 5, minusZero, true}, {0, minusZero, 0, true}, {minusZero, 0, minusZero, true}, {0, least, 0, false}, {least, 0, 0, false}, {5, 5, -least, false}, {5, 5, -1, false}, {9, 8, -1, false}, {5, 5, -infinite, false}, {8, 5, -3, false},
		{noNumber, 8, 3, false}, {5, noNumber, 3, false}, {5, 8, noNumber, false}, {noNumber, noNumber, noNumber, false}, {noNumber, noNumber, 3, false}, {5, 5, noNumber, false},
		{infinite, infinite, infinite, false}, {-infinite, -infinite, infinite, false}, {infinite, infinite, 0, false}, {-infinite, infinite, infinite, true}, {-infinite, infinite, greatest, false}, {infinite, -infinite, infinite, false}, {infinite, 0, infinite, false}, {-infinite, 0, infinite, true}, {0, infinite, infinite, true}, {0, infinite, greatest, false}, {0, -infinite, infinite, false},
		// What is asked is the difference, rounded, or too great.
		{-1, 1e16, 1e16, true}, {1, 1e16, 1e16 - 2, false}, {0.1, 0.3, 0.2, true}, {-greatest, greatest, greatest, false}, {-greatest, greatest, infinite, true}, {greatest, -greatest, infinite, false},
	} {
		if got := impl.Fresh(c.born, c.now, c.most); got != c.want {
			t.Error("fresh", c, got)
		}
	}
}

func expectOverlap(t *testing.T, lows []float64, highs []float64, wantLow float64, wantHigh float64) {
	t.Helper()
	if low, high, ok := impl.Overlap(lows, highs); !ok || !alike(low, wantLow) || !alike(high, wantHigh) {
		t.Errorf("overlap of %g and %g: got %g %g %v, want %g %g", lows, highs, low, high, ok, wantLow, wantHigh)
	}
}

func expectNoOverlap(t *testing.T, lows []float64, highs []float64) {
	t.Helper()
	if low, high, ok := impl.Overlap(lows, highs); ok || !alike(low, 0) || !alike(high, 0) {
		t.Errorf("overlap of %g and %g: got %g %g %v", lows, highs, low, high, ok)
	}
}

func TestOverlap(t *testing.T) {
	expectOverlap(t, []float64{1}, []float64{9}, 1, 9)
	expectOverlap(t, []float64{1, 3}, []float64{9, 4}, 3, 4)
	expectOverlap(t, []float64{3, 1, 2}, []float64{9, 8, 4}, 3, 4)
	expectOverlap(t, []float64{5}, []float64{5}, 5, 5)
	expectOverlap(t, []float64{1, 4}, []float64{4, 9}, 4, 4)
	expectOverlap(t, []float64{-9, -4}, []float64{-1, -2}, -4, -2)
	expectOverlap(t, []float64{-infinite, -infinite}, []float64{infinite, infinite}, -infinite, infinite)
	expectOverlap(t, []float64{infinite, 3}, []float64{infinite, infinite}, infinite, infinite)
	expectOverlap(t, []float64{-infinite}, []float64{-infinite}, -infinite, -infinite)
	expectOverlap(t, []float64{-infinite, 2}, []float64{infinite, 3}, 2, 3)
	expectOverlap(t, []float64{-greatest, least}, []float64{greatest, least}, least, least)
	expectNoOverlap(t, []float64{1, 5}, []float64{4, 9})
	expectNoOverlap(t, []float64{1, 0x1.0000000000001p2}, []float64{4, 9})
	expectNoOverlap(t, []float64{3}, []float64{2})
	expectNoOverlap(t, []float64{1, 8, 1}, []float64{9, 7, 9})
	expectNoOverlap(t, []float64{infinite}, []float64{greatest})
	expectNoOverlap(t, []float64{-greatest}, []float64{-infinite})
	expectNoOverlap(t, []float64{least}, []float64{minusZero})
}

func TestOverlapOfNoughts(t *testing.T) {
	expectOverlap(t, []float64{0, minusZero}, []float64{1, 1}, 0, 1)
	expectOverlap(t, []float64{minusZero, 0}, []float64{1, 1}, minusZero, 1)
	expectOverlap(t, []float64{-1, minusZero, -1, 0}, []float64{1, 1, 1, 1}, minusZero, 1)
	expectOverlap(t, []float64{-1, -1}, []float64{0, minusZero}, -1, 0)
	expectOverlap(t, []float64{-1, -1}, []float64{minusZero, 0}, -1, minusZero)
	expectOverlap(t, []float64{-1, -1, -1}, []float64{1, 0, minusZero}, -1, 0)
	expectOverlap(t, []float64{0}, []float64{minusZero}, 0, minusZero)
	expectOverlap(t, []float64{minusZero, 0}, []float64{minusZero, 0}, minusZero, minusZero)
	expectOverlap(t, []float64{0, minusZero}, []float64{0, minusZero}, 0, 0)
}

func TestOverlapThatIsRefused(t *testing.T) {
	expectNoOverlap(t, nil, nil)
	expectNoOverlap(t, []float64{}, []float64{})
	expectNoOverlap(t, []float64{1}, nil)
	expectNoOverlap(t, nil, []float64{1})
	expectNoOverlap(t, []float64{1, 2}, []float64{9})
	expectNoOverlap(t, []float64{1}, []float64{9, 9})
	for _, x := range unlikeNaNs() {
		expectNoOverlap(t, []float64{x}, []float64{9})
		expectNoOverlap(t, []float64{1}, []float64{x})
		expectNoOverlap(t, []float64{1, x, 2}, []float64{9, 9, 9})
		expectNoOverlap(t, []float64{1, 2, 2}, []float64{9, 9, x})
		expectNoOverlap(t, []float64{x, 2}, []float64{x, 9})
	}
	most, highs := slices.Repeat([]float64{1}, impl.MaxMarks), slices.Repeat([]float64{9}, impl.MaxMarks)
	most[70], highs[99] = 4, 6
	expectOverlap(t, most, highs, 4, 6)
	expectNoOverlap(t, append(most, 1), append(highs, 9))
	expectNoOverlap(t, append(most, 1), highs)
	expectNoOverlap(t, most, append(highs, 9))
}

// Promise 16: what spans have in common lies in each.
func TestOverlapLiesInEach(t *testing.T) {
	r := rand.New(rand.NewSource(65))
	there := 0
	for range 5000 {
		size := r.Intn(4) + 1
		lows, highs := someFloats(r, size, someFloat), someFloats(r, size, someFloat)
		if r.Intn(2) == 0 {
			for at := range lows {
				lows[at], highs[at] = -math.Abs(lows[at]), math.Abs(highs[at])
			}
		}
		low, high, ok := impl.Overlap(lows, highs)
		want := true
		for _, a := range lows {
			for _, b := range highs {
				want = want && a <= b
			}
		}
		if ok != want {
			t.Errorf("overlap of %g and %g: got %v", lows, highs, ok)
		}
		for at := range lows {
			if ok && !(lows[at] <= low && low <= high && high <= highs[at]) {
				t.Errorf("overlap of %g and %g: got %g %g, not in %d", lows, highs, low, high, at)
			}
		}
		if ok && (!slices.Contains(lows, low) || !slices.Contains(highs, high)) {
			t.Errorf("overlap of %g and %g: got %g %g, more could be", lows, highs, low, high)
		}
		if ok {
			there++
		}
	}
	if there < 500 {
		t.Error("few of them have something in common", there)
	}
}

func TestMarked(t *testing.T) {
	expectPlaces(t, "none", impl.Marked(nil, 8, 3))
	expectPlaces(t, "no births", impl.Marked([]float64{}, 8, 3))
	expectPlaces(t, "all fresh", impl.Marked([]float64{5, 8, 6.5}, 8, 3))
	expectPlaces(t, "all old", impl.Marked([]float64{1, 4, 4.9}, 8, 3), 0, 1, 2)
	expectPlaces(t, "some", impl.Marked([]float64{1, 5, 4, 8, 2}, 8, 3), 0, 2, 4)
	expectPlaces(t, "born behind now", impl.Marked([]float64{9, 8, 0x1.0000000000001p3}, 8, 3), 0, 2)
	expectPlaces(t, "NaNs", impl.Marked([]float64{noNumber, 8, noNumber, 7}, 8, 3), 0, 2)
	expectPlaces(t, "now is a NaN", impl.Marked([]float64{7, 8}, noNumber, 3), 0, 1)
	expectPlaces(t, "most is a NaN", impl.Marked([]float64{7, 8}, 8, noNumber), 0, 1)
	expectPlaces(t, "most is below 0", impl.Marked([]float64{8, 9}, 8, -1), 0, 1)
	expectPlaces(t, "infinities", impl.Marked([]float64{infinite, 3, -infinite}, infinite, infinite), 0)
	expectPlaces(t, "infinities of old", impl.Marked([]float64{infinite, 3, -infinite}, 8, infinite), 0)
	old := slices.Repeat([]float64{1}, impl.MaxMarks)
	old[0], old[50] = 7, 8
	places := impl.Marked(old, 8, 3)
	if len(places) != impl.MaxMarks-2 || places[0] != 1 || places[48] != 49 || places[49] != 51 || places[97] != 99 {
		t.Error("as many as can be", places)
	}
	expectPlaces(t, "one more", impl.Marked(append(old, 1), 8, 3))
	expectPlaces(t, "many more", impl.Marked(slices.Repeat(old, 3), 8, 3))
}

func TestMarkedAreThoseThatAreNotFresh(t *testing.T) {
	r := rand.New(rand.NewSource(66))
	for range 2000 {
		born, now, most := someFloats(r, r.Intn(12), someFloat), someFloat(r), someFloat(r)
		var want []int64
		for at, b := range born {
			if !impl.Fresh(b, now, most) {
				want = append(want, int64(at))
			}
		}
		expectPlaces(t, "marked", impl.Marked(born, now, most), want...)
	}
}
