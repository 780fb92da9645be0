package tests

import (
	"math"
	"math/rand"
	"slices"
	"testing"

	"loop.example/g01135/impl"
)

// pointsBeside are lists that are no points with 2 numbers.
func pointsBeside() []any { return append(values(otherLengths()...), values(notPoints()...)...) }

// badNumbersOf4 are no numbers of neighbors of a point among 4.
func badNumbersOf4() []any { return values(0, 5, 6, -1, 16, 17, math.MinInt, math.MaxInt) }

// drawClean returns a Sample with points that is mostly clean.
func drawClean(r *rand.Rand, most int) impl.Sample {
	return roomySample(randomSample(r, 1+r.Intn(most), 1+r.Intn(4), 2+r.Intn(8)))
}

// drawPlaces returns a list of at least one place that is mostly strictly ascending.
func drawPlaces(r *rand.Rand, n int) []int {
	places := slices.DeleteFunc(placesBesides(n, nil), func(place int) bool { return place > 0 && r.Intn(2) == 0 })
	return roomy(places, 60)
}

// nearContracts returns those of the functions of neighbors and of prototypes.
func nearContracts() []contract {
	ofPoint := func(name string, f any) contract {
		return contract{
			name: name, f: f, valid: []any{fourPoints(), roomy([]int{3, -2}, 61), 4}, wrong: [][]any{samplesWithout(), pointsBeside(), badNumbersOf4()},
			misfit: [][]any{{impl.Sample{}, []int{1}, 1}, {sampleOf([]int{1}, []int{1}), []int{1}, 2}, {sampleOf([]int{1}, nil), []int{}, 1}},
			draw: func(r *rand.Rand) []any {
				s := drawPoints(r, 16)
				return []any{s, roomy(randomList(r, len(s.Points[0]), 9), 62), 1 + r.Intn(len(s.Points)+2)}
			},
		}
	}
	conflict := fourPoints()
	conflict.Labels[2] = 1
	ofClean := func(name string, f any, most int) contract {
		return contract{
			name: name, f: f, valid: []any{fourPoints()}, wrong: [][]any{append(samplesWithout(), conflict)},
			draw: func(r *rand.Rand) []any { return []any{drawClean(r, most)} },
		}
	}
	few := ofClean("FewestPlaces", impl.FewestPlaces, 10)
	for n := 9; n <= 16; n++ {
		few = withMisfits(few, []any{repeated(n, 1, 1, 2)})
	}
	return []contract{
		ofPoint("NearestPlaces", impl.NearestPlaces), ofPoint("NearLabel", impl.NearLabel),
		{
			name: "LeftOutMistakes", f: impl.LeftOutMistakes, valid: []any{fourPoints(), 3}, wrong: [][]any{samplesWithout(), append(badNumbersOf4(), 4)},
			misfit: [][]any{{impl.Sample{}, -1}, {sampleOf([]int{1}, []int{1}), 1}, {sampleOf([]int{1}, []int{1}), 0}},
			draw: func(r *rand.Rand) []any {
				s := drawPoints(r, 16)
				return []any{s, r.Intn(len(s.Points) + 1)}
			},
		},
		{
			name: "KeepsLabels", f: impl.KeepsLabels, valid: []any{fourPoints(), roomy([]int{0, 2}, 63)}, wrong: [][]any{samplesWithout(), intLists(notKeeping(4)...)},
			misfit: [][]any{{impl.Sample{}, []int{}}, {sampleOf([]int{1}, []int{1}), []int{1}}},
			draw: func(r *rand.Rand) []any {
				s := drawPoints(r, 16)
				return []any{s, drawPlaces(r, len(s.Points))}
			},
		},
		ofClean("CondensedPlaces", impl.CondensedPlaces, 16), few,
	}
}

// nearPlaneContracts returns those of PairPlane and MeanPlane.
func nearPlaneContracts() []contract {
	x, y := roomy([]int{4, -5}, 64), roomy([]int{4, 5}, 65)
	alike := values(repeated(4, 1, 1, 2), repeated(4, -1, 1, 2), repeated(1, 1, 5))
	return []contract{
		{
			name: "PairPlane", f: impl.PairPlane, valid: []any{x, y}, wrong: [][]any{pointsBeside(), pointsBeside()},
			misfit: [][]any{{x, x}, {y, slices.Clone(y)}, {[]int{9, 9}, []int{0, 0}}, {[]int{}, []int{}}, {make([]int, 5), []int{1, 2, 3, 4, 5}}},
			draw: func(r *rand.Rand) []any {
				d := 1 + r.Intn(4)
				return []any{roomy(randomList(r, d, 9), 66), roomy(randomList(r, d, 9), 67)}
			},
		},
		{
			name: "MeanPlane", f: impl.MeanPlane, valid: []any{fourPoints()}, wrong: [][]any{append(samplesWithout(), alike...)},
			draw: func(r *rand.Rand) []any { return []any{drawPoints(r, 16)} },
		},
	}
}

func drawCounts(r *rand.Rand, s impl.Sample) []int {
	kinds := countsFor(r, len(s.Points))
	return roomy(kinds[r.Intn(len(kinds))], 68)
}

// kernelContracts returns those of the functions of kernels.
func kernelContracts() []contract {
	x, counts := roomy([]int{4, -5}, 69), roomy([]int{3, 0, 999, 1}, 74)
	none, bad := intLists(notCounts(4)...), values(notSamples()...)
	ofCounts := func(name string, f any) contract {
		return contract{
			name: name, f: f, valid: []any{fourPoints(), counts, 3}, wrong: [][]any{bad, none, badDegrees()},
			misfit: [][]any{{impl.Sample{}, []int{0}, 1}, {impl.Sample{}, counts, 1}, {sampleOf([]int{1}, []int{1}), []int{}, 1}},
			draw: func(r *rand.Rand) []any {
				s := drawSample(r, 1+r.Intn(4))
				return []any{s, drawCounts(r, s), 1 + r.Intn(3)}
			},
		}
	}
	return []contract{
		{
			name: "KernelOf", f: impl.KernelOf, valid: []any{x, roomy([]int{0, 7}, 75), 3}, wrong: [][]any{pointsBeside(), pointsBeside(), badDegrees()},
			misfit: [][]any{{[]int{}, []int{}, 1}, {make([]int, 5), make([]int, 5), 1}, {[]int{10}, []int{10}, 1}},
			draw: func(r *rand.Rand) []any {
				d := 1 + r.Intn(4)
				return []any{roomy(randomList(r, d, 9), 76), roomy(randomList(r, d, 9), 77), 1 + r.Intn(3)}
			},
		},
		{
			name: "ForceOf", f: impl.ForceOf, valid: []any{fourPoints(), counts, 2, x}, wrong: [][]any{bad, none, badDegrees(), pointsBeside()},
			misfit: [][]any{{impl.Sample{}, []int{}, 1, []int{}}, {impl.Sample{}, []int{}, 1, make([]int, 5)}, {impl.Sample{}, []int{0}, 1, x}},
			draw: func(r *rand.Rand) []any {
				d := 1 + r.Intn(4)
				s := drawSample(r, d)
				return []any{s, drawCounts(r, s), 1 + r.Intn(3), roomy(randomList(r, d, 9), 78)}
			},
		},
		ofCounts("KernelMistakes", impl.KernelMistakes), ofCounts("KernelSquare", impl.KernelSquare),
		{
			name: "KernelRun", f: impl.KernelRun, valid: []any{fourPoints(), 3, 10}, wrong: [][]any{bad, badDegrees(), badPasses()},
			misfit: [][]any{{impl.Sample{}, 0, 0}, {impl.Sample{}, 1, -1}, {impl.Sample{}, 4, 10}, {impl.Sample{}, 3, 11}},
			draw: func(r *rand.Rand) []any {
				return []any{drawSample(r, 1+r.Intn(4)), 1 + r.Intn(3), r.Intn(11)}
			},
		},
	}
}

func allNeighborContracts() []contract {
	return slices.Concat(nearContracts(), nearPlaneContracts(), kernelContracts())
}

// Promise 13: each function fails for each argument that is not valid, with zero values.
func TestFunctionsOfNeighborsFail(t *testing.T) {
	for _, c := range allNeighborContracts() {
		checkContract(t, c)
	}
}

// Promise 13: each function returns, and the same again, changes no argument, and has results
// in memory of their own.
func TestFunctionsOfNeighborsAreTotal(t *testing.T) {
	for i, c := range allNeighborContracts() {
		checkDraws(t, c, int64(600+i), 1000)
	}
}

// Each function returns for the least and the greatest Samples, too, with the least and the greatest
// numbers beside them.
func TestNeighborsInTheLeastAndGreatestSamples(t *testing.T) {
	great := []impl.Sample{greatSample(), repeated(16, -1, 9, -9, 9, -9), repeated(1, 1, -9), repeated(1, -1, 9, 9, 9, 9), {}}
	for i, s := range great {
		n, d := len(s.Points), 2
		if n > 0 {
			d = len(s.Points[0])
		}
		x, most := slices.Repeat([]int{-9}, d), slices.Repeat([]int{999}, n)
		for name, call := range map[string]struct {
			f    any
			more []any
			want bool
		}{
			"NearestPlaces": {impl.NearestPlaces, []any{x, n}, n > 0}, "NearLabel": {impl.NearLabel, []any{x, n}, n > 0},
			"LeftOutMistakes": {impl.LeftOutMistakes, []any{n - 1}, n > 1}, "KeepsLabels": {impl.KeepsLabels, []any{placesBesides(n, nil)}, n > 0},
			"CondensedPlaces": {impl.CondensedPlaces, nil, n > 0}, "FewestPlaces": {impl.FewestPlaces, nil, n == 1}, "MeanPlane": {impl.MeanPlane, nil, i == 0},
			"ForceOf": {impl.ForceOf, []any{most, 3, x}, true}, "KernelMistakes": {impl.KernelMistakes, []any{most, 3}, true},
			"KernelRun": {impl.KernelRun, []any{3, 10}, true}, "KernelSquare": {impl.KernelSquare, []any{most, 3}, true},
		} {
			if done := checkCall(t, name, call.f, append([]any{roomySample(s)}, call.more...)); done != call.want {
				t.Errorf("%s of %v: %v", name, s, done)
			}
		}
	}
}
