package tests

import (
	"math"
	"math/rand"
	"slices"
	"testing"

	"loop.example/g01135/impl"
)

func badSmall() []any { return values(-1, 6, 7, -5, math.MinInt, math.MaxInt) }

// withValues returns a list of values and behind it those of another one.
func withValues[T, U any](list []T, others []U) []any {
	return slices.Concat(values(list...), values(others...))
}

// crossed returns a Sample that cannot be parted.
func crossed() impl.Sample {
	return roomySample(sampleOf([]int{-1, 1, 1, -1}, []int{0, 0}, []int{0, 1}, []int{1, 0}, []int{1, 1}))
}

// oneSided returns Samples without points with both labels.
func oneSided() []impl.Sample {
	return []impl.Sample{{}, repeated(1, 1, 1, 1), repeated(3, -1, 1, 1), repeated(16, 1, 0, 0)}
}

// manyPoints returns lists of points that are too many.
func manyPoints() [][][]int {
	return [][][]int{repeated(9, 1, 1, 2).Points, repeated(16, 1, 0).Points, repeated(100, 1, 9, 9, 9, 9).Points}
}

// notFew returns lists that are no points of the same length, or too many.
func notFew() [][][]int {
	lists := slices.Concat(manyPoints(), [][][]int{{{1}, {1, 2}}, {{1, 2}, nil}, make([][]int, 3)})
	for _, x := range notPoints() {
		lists = append(lists, [][]int{x}, [][]int{{1, 2}, x})
	}
	return lists
}

func drawFew(r *rand.Rand) []any {
	return []any{roomyRows(randomSample(r, r.Intn(9), 1+r.Intn(4), 1+r.Intn(9)).Points)}
}

// drawCertificate returns a Sample that often cannot be parted, and a list that often is a
// certificate.
func drawCertificate(r *rand.Rand) []any {
	s := drawSample(r, 1+r.Intn(2))
	list, ok := impl.FindCertificate(s)
	if !ok || r.Intn(4) == 0 {
		list = digits(r.Int(), 3, len(s.Points))
	}
	return []any{s, roomy(list, 60)}
}

// certificateContracts returns those of the functions of certificates.
func certificateContracts() []contract {
	none := values(notSamples()...)
	parted := []impl.Sample{{}, repeated(1, 1, 1, 1), repeated(16, -1, 0), fourPoints(), sampleOf([]int{1, -1}, []int{9}, []int{8})}
	one := func(name string, f any, wrong []any) contract {
		return contract{
			name: name, f: f, valid: []any{crossed()}, wrong: [][]any{wrong},
			draw: func(r *rand.Rand) []any { return []any{drawSample(r, 1+r.Intn(4))} },
		}
	}
	return []contract{
		one("FindCertificate", impl.FindCertificate, withValues(parted, notSamples())),
		one("CanPart", impl.CanPart, none),
		one("HardPart", impl.HardPart, withValues(parted, notSamples())),
		{
			name: "IsCertificate", f: impl.IsCertificate, valid: []any{crossed(), roomy([]int{2, 2, 2, 2}, 61)}, wrong: [][]any{none, nil},
			draw: func(r *rand.Rand) []any {
				arguments := drawCertificate(r)
				if r.Intn(4) == 0 {
					arguments[0] = none[r.Intn(len(none))]
				}
				return arguments
			},
		},
		{
			name: "CommonPoint", f: impl.CommonPoint, valid: []any{crossed(), roomy([]int{1, 1, 1, 1}, 62)}, draw: drawCertificate,
			wrong: [][]any{
				withValues(parted, notSamples()),
				values([]int(nil), []int{1, 1, 1}, []int{1, 1, 1, 1, 0}, []int{0, 0, 0, 0}, []int{1, 1, 1, 2}, []int{-1, -1, -1, -1}, slices.Repeat([]int{1000000001}, 4)),
			},
			misfit: [][]any{{impl.Sample{}, []int{}}, {sampleOf([]int{1}, []int{1}), []int{1}}},
		},
		{
			name: "LeastMistakes", f: impl.LeastMistakes, valid: []any{crossed()},
			wrong: [][]any{withValues([]impl.Sample{repeated(9, 1, 1), repeated(16, -1, 9, 9, 9, 9)}, notSamples())},
			draw: func(r *rand.Rand) []any {
				return []any{roomySample(randomSample(r, r.Intn(10), 1+r.Intn(4), 1+r.Intn(9)))}
			},
		},
	}
}

// smallContracts returns those of the functions of small Planes, weights and pairs.
func smallContracts() []contract {
	drawSmall := func(r *rand.Rand) []any {
		d := 1 + r.Intn(3)
		s := roomySample(labelledBy(drawSample(r, d), randomPlane(r, d, 9)))
		return []any{s, r.Intn(4)}
	}
	return []contract{
		{
			name: "SmallPlane", f: impl.SmallPlane, valid: []any{fourPoints(), 3}, draw: drawSmall,
			wrong:  [][]any{append(samplesWithout(), crossed()), badSmall()},
			misfit: [][]any{{crossed(), 5}, {sampleOf([]int{1, -1}, []int{1}, []int{0}), 0}, {impl.Sample{}, 0}},
		},
		{
			name: "WidthOf", f: impl.WidthOf, valid: []any{fourPoints(), roomy([]int{99, -99}, 63)},
			wrong:  [][]any{withValues(oneSided(), notSamples()), append(values(otherLengths()...), values([]int(nil), []int{100, 0}, []int{0, -100}, []int{0, math.MinInt})...)},
			misfit: [][]any{{impl.Sample{}, []int{}}},
			draw: func(r *rand.Rand) []any {
				d := 1 + r.Intn(4)
				return []any{drawSample(r, d), roomy(randomList(r, d, 99), 64)}
			},
		},
		{
			name: "WidestWeights", f: impl.WidestWeights, valid: []any{fourPoints(), 2}, draw: drawSmall,
			wrong:  [][]any{append(withValues(oneSided(), notSamples()), crossed()), append(badSmall(), 0)},
			misfit: [][]any{{crossed(), 5}, {impl.Sample{}, 5}},
		},
		{
			name: "NearestPair", f: impl.NearestPair, valid: []any{fourPoints()}, wrong: [][]any{withValues(oneSided(), notSamples())},
			draw: func(r *rand.Rand) []any { return []any{drawSample(r, 1+r.Intn(4))} },
		},
	}
}

// countContracts returns those of the functions of points and numbers.
func countContracts() []contract {
	points := roomyRows([][]int{{1, 2}, {3, 0}, {-1, 1}, {1, 2}})
	return []contract{
		{name: "CountPartings", f: impl.CountPartings, valid: []any{points}, wrong: [][]any{lists(notFew()...)}, draw: drawFew},
		{name: "InGeneralPosition", f: impl.InGeneralPosition, valid: []any{points}, wrong: [][]any{lists(notFew()...)}, draw: drawFew},
		{
			name: "PartingBound", f: impl.PartingBound, valid: []any{8, 4}, misfit: [][]any{{0, 0}, {0, 5}, {-1, 1}},
			wrong: [][]any{values(9, 10, -1, math.MinInt, math.MaxInt), values(0, 5, -1, math.MinInt, math.MaxInt)},
			draw:  func(r *rand.Rand) []any { return []any{r.Intn(10), r.Intn(6)} },
		},
		{
			name: "WeightsTable", f: impl.WeightsTable, valid: []any{3, 5}, misfit: [][]any{{0, 0}, {4, 1}, {1, 6}},
			wrong: [][]any{values(0, 4, -1, math.MinInt, math.MaxInt), badSmall()},
			draw:  func(r *rand.Rand) []any { return []any{r.Intn(4), r.Intn(3)} },
		},
	}
}

func separationContracts() []contract {
	return slices.Concat(certificateContracts(), smallContracts(), countContracts())
}

// Promise 13: each function fails for each argument that is not valid, with zero values.
func TestFunctionsOfSeparationFail(t *testing.T) {
	for _, c := range separationContracts() {
		checkContract(t, c)
	}
}

// Promise 13: each function returns, and the same again, changes no argument, and has results in
// memory of their own.
func TestFunctionsOfSeparationAreTotal(t *testing.T) {
	for i, c := range separationContracts() {
		checkDraws(t, c, int64(110+i), 600)
	}
}

// Samples of the most points of the greatest length are no exception.
func TestSeparationOfTheGreatestSamples(t *testing.T) {
	r := rand.New(rand.NewSource(130))
	for range 5 {
		s := roomySample(randomSample(r, 16, 4, 9))
		for _, c := range slices.Concat(certificateContracts(), smallContracts()) {
			arguments := slices.Clone(c.valid)
			arguments[0] = s
			if len(arguments) > 1 && c.name == "WidthOf" {
				arguments[1] = roomy(randomList(r, 4, 99), 65)
			}
			checkCall(t, c.name, c.f, arguments)
		}
	}
}
