package tests

import (
	"math"
	"math/rand"
	"slices"
	"testing"

	"loop.example/g00082/impl"
)

func TestSame(t *testing.T) {
	edges := risingEdges()
	for i, a := range edges {
		for k, b := range edges {
			if impl.Same(a, b) != (i == k) {
				t.Error(a, b)
			}
		}
		for _, b := range unlikeNaNs() {
			if impl.Same(a, b) || impl.Same(b, a) {
				t.Error("a NaN and a number", a, b)
			}
		}
	}
	for _, a := range unlikeNaNs() {
		for _, b := range unlikeNaNs() {
			if !impl.Same(a, b) {
				t.Errorf("all NaNs are one: %x %x", math.Float64bits(a), math.Float64bits(b))
			}
		}
	}
	if impl.Same(0, minusZero) || impl.Same(minusZero, 0) || !impl.Same(minusZero, minusZero) || !impl.Same(0, 0) {
		t.Error("noughts")
	}
	if impl.Same(infinite, -infinite) || !impl.Same(infinite, infinite) || !impl.Same(-infinite, -infinite) {
		t.Error("infinities")
	}
	if impl.MaxMarks != 100 {
		t.Error("limits", impl.MaxMarks)
	}
}

func TestKnown(t *testing.T) {
	for _, x := range []float64{0, minusZero, 1, -1, least, -least, 0x1p-1022, greatest, -greatest, 1e308} {
		if !impl.Known(x) {
			t.Error("it is known", x)
		}
	}
	for _, x := range append(unlikeNaNs(), infinite, -infinite) {
		if impl.Known(x) {
			t.Error("it is not known", x)
		}
	}
}

// marksOf has a weight and a value in turn.
func marksOf(numbers ...float64) []impl.Mark {
	var marks []impl.Mark
	for at := 0; at < len(numbers); at += 2 {
		marks = append(marks, impl.Mark{Weight: numbers[at], Value: numbers[at+1]})
	}
	return marks
}

func expectBlend(t *testing.T, want float64, numbers ...float64) {
	t.Helper()
	if got := impl.Blend(marksOf(numbers...)); !alike(got, want) {
		t.Errorf("blend of %g: got %x, want %x", numbers, got, want)
	}
}

func TestBlend(t *testing.T) {
	expectBlend(t, noNumber)
	expectBlend(t, 7, 1, 7)
	expectBlend(t, 3.5, 1, 2, 3, 4)
	expectBlend(t, 0x1.5555555555555p-2, 3, 0, 0.5, 1, 1, 1)
	expectBlend(t, 4, -1, 4)
	expectBlend(t, 3, 0, 5, 1, 3)
	expectBlend(t, 3, minusZero, 5, 1, 3)
	expectBlend(t, -1, -1, 5, 3, 1)
	// The quotients by nought, and noughts by a number.
	expectBlend(t, noNumber, 0, 5)
	expectBlend(t, noNumber, minusZero, 5)
	expectBlend(t, noNumber, -1, 1, 1, 1)
	expectBlend(t, infinite, -1, 2, 1, 5)
	expectBlend(t, -infinite, -1, 5, 1, 2)
	expectBlend(t, 0, 2, 0)
	expectBlend(t, 0, 2, minusZero)
	expectBlend(t, minusZero, -2, 0)
	expectBlend(t, minusZero, -2, minusZero)
	expectBlend(t, 0, least, 0.5)
	expectBlend(t, 1, least, 0.75)
}

func TestBlendLeavesOutWhatIsNotKnown(t *testing.T) {
	for _, x := range append(unlikeNaNs(), infinite, -infinite) {
		expectBlend(t, noNumber, 1, x)
		expectBlend(t, noNumber, x, 1)
		expectBlend(t, noNumber, x, x)
		expectBlend(t, 3, x, 1, 1, 3)
		expectBlend(t, 3, 1, 3, 7, x)
		expectBlend(t, 3, 1, 2, x, 9, 1, 4, 9, x, x, x)
	}
}

func TestBlendOfGreatSums(t *testing.T) {
	expectBlend(t, infinite, 2, greatest)
	expectBlend(t, -infinite, -2, greatest, 4, 0)
	expectBlend(t, infinite, 1, greatest, 1, greatest)
	expectBlend(t, -infinite, 1, -greatest, 1, -greatest)
	expectBlend(t, noNumber, 2, greatest, 2, -greatest)
	expectBlend(t, noNumber, greatest, 1, greatest, 1)
	expectBlend(t, 0, greatest, 0.5, greatest, -0.25)
	expectBlend(t, minusZero, greatest, 0.25, greatest, -0.5)
	expectBlend(t, noNumber, greatest, 1, greatest, 1, -greatest, 1, -greatest, 1)
	// It stays an infinity, though it would not in another order.
	expectBlend(t, infinite, 1, greatest, 1, greatest, 1, -greatest)
	expectBlend(t, greatest, 1, greatest, 1, -greatest, -1, -greatest)
}

func TestBlendIsRoundedInOrder(t *testing.T) {
	expectBlend(t, 0, 1, 1e16, 1, 1, 1, -1e16)
	expectBlend(t, 0x1.5555555555555p-2, 1, 1e16, 1, -1e16, 1, 1)
	expectBlend(t, infinite, 1e16, 0, 1, 1, -1e16, 0)
	expectBlend(t, 1, 1e16, 0, -1e16, 0, 1, 1)
	// The product is 1 when it is rounded ahead of the sum.
	if math.FMA(1+0x1p-30, 1-0x1p-30, -1) != -0x1p-60 {
		t.Error("fused it would be the same")
	}
	expectBlend(t, 0, -1, 1, 1+0x1p-30, 1-0x1p-30)
	expectBlend(t, 0, 1, -1, 1+0x1p-30, 1-0x1p-30)
}

func TestBlendOfMaxMarks(t *testing.T) {
	marks := slices.Repeat(marksOf(2, 5), impl.MaxMarks)
	expectFloat(t, "as many as can be", impl.Blend(marks), 5)
	expectFloat(t, "one more", impl.Blend(append(marks, impl.Mark{Weight: 2, Value: 5})), noNumber)
	expectFloat(t, "one more, that would be left out", impl.Blend(append(marks, impl.Mark{Weight: noNumber})), noNumber)
	expectFloat(t, "many more", impl.Blend(slices.Repeat(marks, 3)), noNumber)
}

// blended goes through the marks as the document tells it; fused is what it must not be.
func blended(marks []impl.Mark) (want float64, fused float64) {
	values, fusedValues, weights := 0.0, 0.0, 0.0
	for _, m := range marks {
		if isKnown(m.Weight) && isKnown(m.Value) {
			values += product(m.Weight, m.Value)
			fusedValues = math.FMA(m.Weight, m.Value, fusedValues)
			weights += m.Weight
		}
	}
	return values / weights, fusedValues / weights
}

func TestBlendToTheLastBit(t *testing.T) {
	r := rand.New(rand.NewSource(51))
	unlike := 0
	for range 5000 {
		some := someKnown
		if r.Intn(2) == 0 {
			some = someFloat
		}
		marks := marksOf(someFloats(r, 2*r.Intn(12), some)...)
		want, fused := blended(marks)
		if got := impl.Blend(marks); !alike(got, want) {
			t.Errorf("blend of %x: got %x, want %x", marks, got, want)
		}
		if !alike(want, fused) {
			unlike++
		}
	}
	if unlike < 100 {
		t.Error("few of them tell whether a product is fused", unlike)
	}
}

func TestAbove(t *testing.T) {
	for _, c := range []struct{ x, want float64 }{
		{0, least}, {minusZero, least}, {least, 2 * least}, {-least, minusZero}, {-2 * least, -least},
		{greatest, infinite}, {infinite, infinite}, {-infinite, -greatest}, {-greatest, -0x1.ffffffffffffep1023},
		{1, 0x1.0000000000001p0}, {0x1.fffffffffffffp-1, 1}, {0x1.fffffffffffffp0, 2}, {-1, -0x1.fffffffffffffp-1}, {-0x1.0000000000001p0, -1}, {-2, -0x1.fffffffffffffp0},
		{0x0.fffffffffffffp-1022, 0x1p-1022}, {0x1p-1022, 0x1.0000000000001p-1022}, {-0x1p-1022, -0x0.fffffffffffffp-1022}, {-0x1.0000000000001p-1022, -0x1p-1022},
		{0.1, 0x1.999999999999bp-4}, {-0.1, -0x1.9999999999999p-4}, {0x1p53, 0x1p53 + 2}, {0x1p52, 0x1p52 + 1}, {-0x1p53, -0x1p53 + 1},
	} {
		expectFloat(t, "above", impl.Above(c.x), c.want)
	}
	for _, x := range unlikeNaNs() {
		expectFloat(t, "above a NaN", impl.Above(x), x)
	}
}

func expectNext(t *testing.T, x float64) {
	t.Helper()
	y := impl.Above(x)
	if !(y > x) {
		t.Errorf("above %x: got %x, which is not", x, y)
	}
	if middle := halfway(x, y); isKnown(y) && middle != x && middle != y {
		t.Errorf("between %x and %x: %x", x, y, middle)
	}
	if y == 0 && !math.Signbit(y) || isKnown(x) && x == greatest != math.IsInf(y, 1) {
		t.Errorf("above %x: got %x", x, y)
	}
}

// Promise 15: the number above a known one is the next one.
func TestAboveIsTheNext(t *testing.T) {
	for power := -1074; power <= 1023; power++ {
		border := math.Ldexp(1, power)
		for _, x := range []float64{border, -border, math.Nextafter(border, 0), -math.Nextafter(border, infinite), math.Nextafter(border, infinite)} {
			if isKnown(x) {
				expectNext(t, x)
			}
		}
		expectFloat(t, "from below", impl.Above(math.Nextafter(border, 0)), border)
		expectFloat(t, "from below, under 0", impl.Above(-math.Nextafter(border, infinite)), -border)
	}
	r := rand.New(rand.NewSource(52))
	for range 20000 {
		expectNext(t, someKnown(r))
	}
}

// better says what the document says of two places of one list.
func better(values []float64, one int64, two int64) bool {
	a, b := values[one], values[two]
	if alike(a, b) {
		return one < two
	}
	if a == b {
		return !math.Signbit(a)
	}
	return a > b || math.IsNaN(b)
}

// Promise 15: ranks are an order.
func expectRanked(t *testing.T, values []float64) {
	t.Helper()
	places := impl.Ranked(values)
	all := slices.Sorted(slices.Values(places))
	for at := range values {
		if len(all) != len(values) || all[at] != int64(at) {
			t.Fatalf("ranks of %g: got %d", values, places)
		}
	}
	for at := 1; at < len(places); at++ {
		if !better(values, places[at-1], places[at]) || better(values, places[at], places[at-1]) {
			t.Errorf("ranks of %g: got %d, and %d is not ahead of %d", values, places, places[at-1], places[at])
		}
	}
}

func TestRanked(t *testing.T) {
	expectPlaces(t, "none", impl.Ranked(nil))
	expectPlaces(t, "none", impl.Ranked([]float64{}))
	expectPlaces(t, "one", impl.Ranked([]float64{noNumber}), 0)
	expectPlaces(t, "three", impl.Ranked([]float64{2, 3, 1}), 1, 0, 2)
	expectPlaces(t, "alike", impl.Ranked([]float64{3, 5, 3, 5, 3}), 1, 3, 0, 2, 4)
	expectPlaces(t, "0 first", impl.Ranked([]float64{0, minusZero}), 0, 1)
	expectPlaces(t, "-0 first", impl.Ranked([]float64{minusZero, 0}), 1, 0)
	expectPlaces(t, "noughts", impl.Ranked([]float64{minusZero, 0, -least, minusZero, 0, least}), 5, 1, 4, 0, 3, 2)
	expectPlaces(t, "infinities", impl.Ranked([]float64{-infinite, greatest, noNumber, infinite, -greatest}), 3, 1, 4, 0, 2)
	expectPlaces(t, "all NaNs", impl.Ranked(unlikeNaNs()), 0, 1, 2, 3, 4, 5, 6)
	expectPlaces(t, "NaNs", impl.Ranked([]float64{unlikeNaNs()[4], 1, unlikeNaNs()[0], -infinite, unlikeNaNs()[6]}), 1, 3, 0, 2, 4)
	edges := risingEdges()
	for at, place := range impl.Ranked(edges) {
		if place != int64(len(edges)-1-at) {
			t.Error("edges", at, place)
		}
	}
}

func TestRanksAreAnOrder(t *testing.T) {
	r := rand.New(rand.NewSource(53))
	for range 2000 {
		expectRanked(t, someFloats(r, r.Intn(20), someFloat))
	}
	most := someFloats(r, impl.MaxMarks, someFloat)
	expectRanked(t, most)
	expectRanked(t, slices.Repeat([]float64{1}, impl.MaxMarks))
	expectPlaces(t, "one more", impl.Ranked(append(most, 1)))
	expectPlaces(t, "many more", impl.Ranked(slices.Repeat(most, 3)))
}

func expectMedian(t *testing.T, want float64, values ...float64) {
	t.Helper()
	// In whatever order they are.
	for range len(values) + 1 {
		if got := impl.Median(values); !alike(got, want) {
			t.Errorf("median of %x: got %x, want %x", values, got, want)
		}
		if len(values) > 0 {
			values = append(slices.Clone(values[1:]), values[0])
		}
	}
	slices.Reverse(values)
	expectFloat(t, "the other way around", impl.Median(values), want)
}

func TestMedian(t *testing.T) {
	expectMedian(t, noNumber)
	expectMedian(t, 7, 7)
	expectMedian(t, 2.5, 1, 4)
	expectMedian(t, 4, 1, 4, 9)
	expectMedian(t, 3, -9, 2, 4, 100)
	expectMedian(t, 5, 5, 5, 5, 5)
	expectMedian(t, 2, 1, 1, 2, 9, 9)
	for _, x := range append(unlikeNaNs(), infinite, -infinite) {
		expectMedian(t, noNumber, x)
		expectMedian(t, noNumber, x, x, x)
		expectMedian(t, 7, x, 7)
		expectMedian(t, 2.5, 1, x, 4, x)
		expectMedian(t, 4, x, 1, 4, x, 9)
	}
	expectMedian(t, noNumber, infinite, -infinite, noNumber)
}

func TestMedianOfNoughts(t *testing.T) {
	expectMedian(t, 0, 0)
	expectMedian(t, minusZero, minusZero)
	expectMedian(t, 0, 0, 0)
	expectMedian(t, 0, minusZero, 0)
	expectMedian(t, minusZero, minusZero, minusZero)
	expectMedian(t, minusZero, minusZero, 0, minusZero)
	expectMedian(t, 0, 0, 0, minusZero)
	expectMedian(t, minusZero, -1, minusZero, 0)
	expectMedian(t, 0, 1, minusZero, 0)
	expectMedian(t, 0, 1, minusZero, 0, -1)
	expectMedian(t, minusZero, -2, minusZero, minusZero, 0, 1, -1, minusZero, 1)
}

func TestMedianAtTheEnds(t *testing.T) {
	expectMedian(t, infinite, greatest, greatest)
	expectMedian(t, -infinite, -greatest, -greatest)
	expectMedian(t, 0, greatest, -greatest)
	expectMedian(t, greatest, greatest, greatest, greatest)
	expectMedian(t, infinite, 1, greatest, greatest, infinite, greatest)
	expectMedian(t, 0x1p1023, 0x1p1023, greatest, 0)
	expectMedian(t, 0x1.ffffffffffffep1022, 0x1.ffffffffffffcp1022, 0x1p1023)
	// Half of the least ones is rounded to the even one.
	expectMedian(t, least, least, least)
	expectMedian(t, 0, least, 0)
	expectMedian(t, 0, least, minusZero)
	expectMedian(t, minusZero, -least, 0)
	expectMedian(t, 2*least, least, 2*least)
	expectMedian(t, 2*least, 2*least, 3*least)
	expectMedian(t, -2*least, -least, -2*least)
	expectMedian(t, 1, 1, 0x1.0000000000001p0)
	expectMedian(t, 0x1.0000000000002p0, 0x1.0000000000001p0, 0x1.0000000000002p0)
}

// Promise 15: a median lies among its numbers (those that are known).
func TestMedianLiesAmongItsNumbers(t *testing.T) {
	r := rand.New(rand.NewSource(54))
	for range 5000 {
		values := someFloats(r, r.Intn(12), someFloat)
		known := slices.DeleteFunc(slices.Clone(values), func(x float64) bool { return !isKnown(x) })
		got := impl.Median(values)
		expectFloat(t, "without those that are not known", impl.Median(known), got)
		if len(known) == 0 {
			expectFloat(t, "none", got, noNumber)
			continue
		}
		above, below := 0, 0
		for _, x := range known {
			if x >= got {
				above++
			}
			if x <= got {
				below++
			}
		}
		if isKnown(got) && (got < slices.Min(known) || got > slices.Max(known) || 2*above < len(known) || 2*below < len(known)) {
			t.Errorf("median of %x: got %x", values, got)
		}
		if len(known)%2 == 1 && !slices.ContainsFunc(known, func(x float64) bool { return alike(x, got) }) {
			t.Errorf("median of %x: got %x, none of them", values, got)
		}
	}
}

func TestMedianOfMaxMarks(t *testing.T) {
	var values []float64
	for n := range impl.MaxMarks {
		values = append(values, float64(n*37%impl.MaxMarks))
	}
	expectMedian(t, 49.5, values...)
	expectFloat(t, "one more", impl.Median(append(values, 50)), noNumber)
	expectFloat(t, "one more, that is not known", impl.Median(append(values, noNumber)), noNumber)
	expectFloat(t, "one more, few of which are known", impl.Median(append(slices.Repeat([]float64{infinite}, impl.MaxMarks), 1)), noNumber)
	expectFloat(t, "few of which are known", impl.Median(append(slices.Repeat([]float64{infinite}, impl.MaxMarks-1), 1)), 1)
}

func TestDecay(t *testing.T) {
	for _, c := range []struct {
		x     float64
		steps int64
		want  float64
	}{
		{8, 0, 8}, {8, 1, 4}, {8, 3, 1}, {8, 4, 0.5}, {-8, 2, -2}, {0.1, 1, 0x1.999999999999ap-5}, {1, 1074, least}, {1, 1075, 0}, {-1, 1075, minusZero}, {1, 3000, 0}, {-1, 3000, minusZero},
		{greatest, 0, greatest}, {greatest, 1, 0x1.fffffffffffffp1022}, {greatest, 2045, 0x1.fffffffffffffp-1022}, {greatest, 2046, 0x1p-1022}, {greatest, 2098, least}, {greatest, 2099, 0}, {greatest, 3000, 0}, {-greatest, 3000, minusZero},
		{least, 0, least}, {least, 1, 0}, {-least, 1, minusZero}, {2 * least, 1, least}, {3 * least, 1, 2 * least}, {-3 * least, 1, -2 * least}, {5 * least, 1, 2 * least}, {7 * least, 1, 4 * least},
		// Halved at once it would be the least one.
		{5 * least, 2, least}, {5 * least, 3, 0}, {-5 * least, 3, minusZero},
		{0, 0, 0}, {0, 3000, 0}, {minusZero, 0, minusZero}, {minusZero, 1, minusZero}, {minusZero, 3000, minusZero},
		{infinite, 0, infinite}, {infinite, 3000, infinite}, {-infinite, 3000, -infinite}, {noNumber, 0, noNumber}, {noNumber, 7, noNumber},
	} {
		expectFloat(t, "decay", impl.Decay(c.x, c.steps), c.want)
	}
	for _, x := range append(risingEdges(), noNumber) {
		for _, steps := range []int64{-1, math.MinInt64, 3001, math.MaxInt64, math.MinInt64 + 1} {
			expectFloat(t, "no such steps", impl.Decay(x, steps), noNumber)
		}
		halves := x
		for steps := range int64(3001) {
			expectFloat(t, "step by step", impl.Decay(x, steps), halves)
			halves = product(halves, 0.5)
		}
	}
}

func TestWithin(t *testing.T) {
	for _, c := range []struct{ x, low, high, want float64 }{
		{0.5, 1, 2, 1}, {1, 1, 2, 1}, {1.5, 1, 2, 1.5}, {2, 1, 2, 2}, {2.5, 1, 2, 2}, {0x1.fffffffffffffp-1, 1, 2, 1}, {0x1.0000000000001p1, 1, 2, 2}, {0x1.0000000000001p0, 1, 2, 0x1.0000000000001p0},
		{noNumber, 1, 2, 1}, {noNumber, -infinite, 2, -infinite}, {noNumber, minusZero, 0, minusZero}, {noNumber, infinite, infinite, infinite},
		{1, noNumber, 2, noNumber}, {1, 0, noNumber, noNumber}, {1, noNumber, noNumber, noNumber}, {noNumber, noNumber, 1, noNumber}, {noNumber, 1, noNumber, noNumber},
		{5, -infinite, infinite, 5}, {infinite, -infinite, infinite, infinite}, {-infinite, -infinite, infinite, -infinite}, {infinite, 1, 2, 2}, {-infinite, 1, 2, 1}, {5, infinite, infinite, infinite}, {5, -infinite, -infinite, -infinite},
		{1, 3, 3, 3}, {3, 3, 3, 3}, {4, 3, 3, 3}, {noNumber, 3, 3, 3},
		{1, 2, 1, noNumber}, {1.5, 2, 1, noNumber}, {2, 2, 1, noNumber}, {noNumber, 2, 1, noNumber}, {1, infinite, -infinite, noNumber}, {1, 0x1.0000000000001p0, 1, noNumber}, {0, least, -least, noNumber},
		{minusZero, 0, 1, minusZero}, {0, minusZero, 1, 0}, {0, -1, minusZero, 0}, {minusZero, -1, 0, minusZero}, {minusZero, 0, minusZero, minusZero}, {0, 0, minusZero, 0}, {minusZero, 0, 0, minusZero}, {0, minusZero, minusZero, 0},
		{-1, minusZero, 0, minusZero}, {-1, 0, minusZero, 0}, {1, minusZero, 0, 0}, {1, 0, minusZero, minusZero}, {-least, minusZero, 1, minusZero}, {least, -1, minusZero, minusZero},
	} {
		expectFloat(t, "within", impl.Within(c.x, c.low, c.high), c.want)
	}
}

// Promise 15: what is held within bounds is in them.
func TestWithinIsInItsBounds(t *testing.T) {
	r := rand.New(rand.NewSource(55))
	for range 20000 {
		x, low, high := someFloat(r), someFloat(r), someFloat(r)
		got := impl.Within(x, low, high)
		if !(low <= high) {
			expectFloat(t, "no bounds", got, noNumber)
			continue
		}
		if got < low || got > high || math.IsNaN(got) {
			t.Errorf("%x within %x .. %x: got %x", x, low, high, got)
		}
		if low <= x && x <= high {
			expectFloat(t, "as it is", got, x)
		} else if x > high {
			expectFloat(t, "at the upper end", got, high)
		} else {
			expectFloat(t, "at the lower end", got, low)
		}
		expectFloat(t, "again", impl.Within(got, low, high), got)
	}
}

func TestSure(t *testing.T) {
	for _, c := range []struct {
		good, all int64
		want      float64
	}{
		{0, 0, 0.5}, {0, 1, 0x1.5555555555555p-2}, {1, 1, 0x1.5555555555555p-1}, {0, 2, 0.25}, {1, 2, 0.5}, {2, 2, 0.75}, {1, 8, 0x1.999999999999ap-3}, {3, 3, 0x1.999999999999ap-1},
		{0, impl.MaxNumber, 0x1.12e0be79343a6p-30}, {impl.MaxNumber, impl.MaxNumber, 0x1.fffffff768fa1p-1}, {impl.MaxNumber - 1, impl.MaxNumber, 0x1.ffffffeed1f42p-1}, {impl.MaxNumber / 2, impl.MaxNumber, 0.5},
	} {
		expectFloat(t, "sure", impl.Sure(c.good, c.all), c.want)
	}
	for _, c := range [][2]int64{{-1, 0}, {-1, 5}, {-1, -1}, {0, -1}, {1, 0}, {6, 5}, {5, -5}, {math.MinInt64, 0}, {0, math.MinInt64}, {math.MinInt64, math.MinInt64}, {0, impl.MaxNumber + 1}, {impl.MaxNumber + 1, impl.MaxNumber}, {impl.MaxNumber + 1, impl.MaxNumber + 1}, {math.MaxInt64, math.MaxInt64}, {0, math.MaxInt64}, {math.MaxInt64, 0}, {math.MinInt64, math.MaxInt64}} {
		expectFloat(t, "not sure", impl.Sure(c[0], c[1]), noNumber)
	}
}
