package tests

import (
	"math"
	"math/big"
	"math/rand"
	"slices"
	"testing"
)

const (
	greatest = math.MaxFloat64
	least    = math.SmallestNonzeroFloat64
)

var (
	minusZero = math.Copysign(0, -1)
	infinite  = math.Inf(1)
	noNumber  = math.NaN()
)

// unlikeNaNs are of both signs, quiet ones and others.
func unlikeNaNs() []float64 {
	var list []float64
	for _, bits := range []uint64{0x7ff8000000000000, 0x7ff8000000000001, 0xfff8000000000000, 0x7ff0000000000001, 0xfff0000000000001, 0x7fffffffffffffff, 0xffffffffffffffff} {
		list = append(list, math.Float64frombits(bits))
	}
	return list
}

// risingEdges has no two that are the same, -0 ahead of 0.
func risingEdges() []float64 {
	above := []float64{0, least, 2 * least, 0x0.fffffffffffffp-1022, 0x1p-1022, 0x1.0000000000001p-1022, 0.1, 0.5, 0x1.fffffffffffffp-1, 1, 0x1.0000000000001p0, 1.5, 2, 3, 0x1p53, 1e16, 1e308, greatest, infinite}
	var list []float64
	for _, x := range slices.Backward(above) {
		list = append(list, -x)
	}
	list[len(list)-1] = minusZero
	return append(list, above...)
}

func alike(a float64, b float64) bool {
	return math.Float64bits(a) == math.Float64bits(b) || math.IsNaN(a) && math.IsNaN(b)
}

func allAlike(a []float64, b []float64) bool {
	return slices.EqualFunc(a, b, alike)
}

func isKnown(x float64) bool {
	return math.Abs(x) <= greatest
}

func expectFloat(t *testing.T, what string, got float64, want float64) {
	t.Helper()
	if !alike(got, want) {
		t.Errorf("%s: got %x (%g), want %x (%g)", what, got, got, want, want)
	}
}

func expectPlaces(t *testing.T, what string, got []int64, want ...int64) {
	t.Helper()
	if !slices.Equal(got, want) {
		t.Errorf("%s: got %d, want %d", what, got, want)
	}
}

// What is turned to float64 is rounded by itself, whatever the machine can fuse.
func product(a float64, b float64) float64 {
	return float64(a * b)
}

// someKnown is of any size in one case of three, else of a middling one, so that sums are rounded.
func someKnown(r *rand.Rand) float64 {
	switch r.Intn(6) {
	case 0, 1:
		for {
			if x := math.Float64frombits(r.Uint64()); isKnown(x) {
				return x
			}
		}
	case 2:
		return float64(r.Intn(7) - 3)
	}
	return math.Ldexp(r.NormFloat64(), r.Intn(40)-20)
}

// someFloat is an edge, or one that is not known, now and then.
func someFloat(r *rand.Rand) float64 {
	switch r.Intn(5) {
	case 0:
		edges := append(risingEdges(), unlikeNaNs()...)
		return edges[r.Intn(len(edges))]
	}
	return someKnown(r)
}

func someFloats(r *rand.Rand, size int, some func(*rand.Rand) float64) []float64 {
	var list []float64
	for range size {
		list = append(list, some(r))
	}
	return list
}

// halfway is the float64 that is nearest to the middle between two; where none lies between them, it is one of them.
func halfway(a float64, b float64) float64 {
	sum := new(big.Float).SetPrec(2200).SetFloat64(a)
	sum.Add(sum, new(big.Float).SetFloat64(b))
	middle, _ := sum.Quo(sum, new(big.Float).SetFloat64(2)).Float64()
	return middle
}
