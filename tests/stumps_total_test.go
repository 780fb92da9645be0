package tests

import (
	"math/rand"
	"slices"
	"testing"

	"loop.example/g01135/impl"
)

func roomyPlane(p impl.Plane) impl.Plane { return planeOf(p.Bound, roomy(p.Weights, 50)...) }

func roomyJury(jury []impl.Plane) []impl.Plane {
	list := []impl.Plane{}
	for _, p := range jury {
		list = append(list, roomyPlane(p))
	}
	return roomy(list, planeOf(51, 52))
}

// threePlanes returns a jury of Planes with 2 Weights.
func threePlanes() []impl.Plane {
	return roomyJury([]impl.Plane{planeOf(1, 1, 0), planeOf(0, 2, 1), planeOf(-1, 0, -1)})
}

// drawPoints returns a Sample with points, of which there are at most most.
func drawPoints(r *rand.Rand, most int) impl.Sample {
	return roomySample(randomSample(r, 1+r.Intn(most), 1+r.Intn(4), 1+r.Intn(9)))
}

// boostContracts returns those of the functions of Samples with points.
func boostContracts() []contract {
	ofPoints := func(name string, f any) contract {
		return contract{
			name: name, f: f, valid: []any{fourPoints()}, wrong: [][]any{samplesWithout()},
			draw: func(r *rand.Rand) []any { return []any{drawPoints(r, 18)} },
		}
	}
	ofRounds := func(name string, f any) contract {
		return contract{
			name: name, f: f, valid: []any{fourPoints(), 8}, wrong: [][]any{samplesWithout(), badBoosts()},
			misfit: [][]any{{impl.Sample{}, 1}, {impl.Sample{}, 8}},
			draw:   func(r *rand.Rand) []any { return []any{drawPoints(r, 16), r.Intn(9)} },
		}
	}
	many := []impl.Sample{}
	for n := 9; n <= 16; n++ {
		many = append(many, repeated(n, 1, 1, 2))
	}
	return []contract{
		ofPoints("StumpsOf", impl.StumpsOf), ofPoints("BestChoice", impl.BestChoice), ofRounds("BoostRounds", impl.BoostRounds),
		withMisfits(ofRounds("BoostBound", impl.BoostBound), []any{fourPoints(), 0}, []any{impl.Sample{}, 0}),
		{
			name: "FittingJury", f: impl.FittingJury, valid: []any{fourPoints(), 3},
			wrong:  [][]any{append(samplesWithout(), values(many...)...), badJurySizes()},
			misfit: [][]any{{sampleOf([]int{1, -1}, []int{3}, []int{3}), 2}, {greatSample(), 3}},
			draw: func(r *rand.Rand) []any {
				s := drawPoints(r, 9)
				if side := drawSides(r, s)[1+r.Intn(3)]; r.Intn(4) > 0 {
					for i, x := range s.Points {
						s.Labels[i] = side(x)
					}
				}
				return []any{s, 1 + r.Intn(3)}
			},
		},
	}
}

// heftContracts returns those of the functions of hefts, and of IsStump.
func heftContracts() []contract {
	hefts := roomy([]int{3, 0, 1000000, 1}, 53)
	p := roomyPlane(planeOf(1, 0, 1))
	others := append(values(planeOf(0, 1), planeOf(0, 1, 1, 1), planeOf(0, 1, 1, 1, 1)), values(notPlanes()...)...)
	none := intLists(notHefts(4)...)
	return []contract{
		{
			name: "IsStump", f: impl.IsStump, valid: []any{p}, wrong: [][]any{values(append(notPlanes(), notStumps()...)...)},
			draw: func(r *rand.Rand) []any {
				return []any{roomyPlane(planeOf(r.Intn(250)-125, randomList(r, 1+r.Intn(2), 1)...))}
			},
		},
		{
			name: "WeightedMistakes", f: impl.WeightedMistakes, valid: []any{fourPoints(), hefts, p}, wrong: [][]any{values(notSamples()...), none, others},
			misfit: [][]any{{impl.Sample{}, []int{0}, p}, {sampleOf([]int{1}, []int{1}), []int{1}, p}, {impl.Sample{}, []int{}, planeOf(0)}},
			draw: func(r *rand.Rand) []any {
				s := drawPoints(r, 16)
				return []any{s, drawHefts(r, s), drawPlane(r, len(s.Points[0]))}
			},
		},
		{
			name: "BestStump", f: impl.BestStump, valid: []any{fourPoints(), hefts}, wrong: [][]any{samplesWithout(), none},
			misfit: [][]any{{impl.Sample{}, []int{}}, {impl.Sample{}, []int{1}}, {sampleOf([]int{1}, []int{1}), []int{}}},
			draw: func(r *rand.Rand) []any {
				s := drawPoints(r, 16)
				return []any{s, drawHefts(r, s)}
			},
		},
		{
			name: "UniformHefts", f: impl.UniformHefts, valid: []any{fourPoints(), 5}, wrong: [][]any{values(notSamples()...), values(badHefts()...)},
			draw: func(r *rand.Rand) []any { return []any{drawPoints(r, 16), r.Intn(1000001)} },
		},
	}
}

func drawHefts(r *rand.Rand, s impl.Sample) []int {
	kinds := heftsFor(r, len(s.Points))
	return roomy(kinds[r.Intn(len(kinds))], 54)
}

// juryContracts returns those of the functions of juries.
func juryContracts() []contract {
	bad := values(append(notJuries(), splitJury(1, 2, 1), splitJury(3, 1, 1), splitJury(4, 5, 0))...)
	points := append(values(otherLengths()...), values(notPoints()...)...)
	ofSample := func(name string, f any, most int) contract {
		return contract{
			name: name, f: f, valid: []any{fourPoints(), threePlanes()}, wrong: [][]any{values(notSamples()...), bad},
			misfit: [][]any{{impl.Sample{}, []impl.Plane{}}, {impl.Sample{}, []impl.Plane{always(1, 1), always(2, 1)}}, {impl.Sample{}, splitJury(2, 9, 1)}},
			draw: func(r *rand.Rand) []any {
				s := drawPoints(r, 16)
				return []any{s, roomyJury(drawJury(r, 1+r.Intn(most), len(s.Points[0]), 9))}
			},
		}
	}
	sides := ofSample("SidesSample", impl.SidesSample, 5)
	for size := 5; size <= 9; size++ {
		sides = withMisfits(sides, []any{fourPoints(), splitJury(2, size, 0)}, []any{impl.Sample{}, splitJury(2, 0, size)})
	}
	return []contract{
		ofSample("JuryMistakes", impl.JuryMistakes, 10), sides,
		{
			name: "JurySide", f: impl.JurySide, valid: []any{threePlanes(), roomy([]int{4, -9}, 55)}, wrong: [][]any{bad, points},
			misfit: [][]any{{[]impl.Plane{}, []int{}}, {splitJury(5, 1, 1), make([]int, 5)}, {[]impl.Plane{{}}, []int{}}},
			draw: func(r *rand.Rand) []any {
				d := 1 + r.Intn(4)
				return []any{roomyJury(drawJury(r, 1+r.Intn(10), d, 9)), roomy(randomList(r, d, 9), 56)}
			},
		},
	}
}

// choiceContracts returns those of the functions of choices.
func choiceContracts() []contract {
	planes := threePlanes()
	bad := values(append(notPlanes(), always(1, 1), always(3, -1), always(4, 1))...)
	points := append(values(otherLengths()...), values(notPoints()...)...)
	draw := func(r *rand.Rand, d int) []any {
		return []any{drawPlane(r, d), drawPlane(r, d), drawPlane(r, d)}
	}
	return []contract{
		{
			name: "ChoiceSide", f: impl.ChoiceSide, valid: []any{planes[0], planes[1], planes[2], roomy([]int{3, -2}, 57)}, wrong: [][]any{bad, bad, bad, points},
			misfit: [][]any{{planeOf(0), planeOf(0), planeOf(0), []int{}}, {always(5, 1), always(5, 1), always(5, 1), make([]int, 5)}},
			draw: func(r *rand.Rand) []any {
				d := 1 + r.Intn(4)
				return append(draw(r, d), roomy(randomList(r, d, 9), 58))
			},
		},
		{
			name: "ChoiceMistakes", f: impl.ChoiceMistakes, valid: []any{fourPoints(), planes[0], planes[1], planes[2]}, wrong: [][]any{values(notSamples()...), bad, bad, bad},
			misfit: [][]any{{impl.Sample{}, planeOf(0), planeOf(0), planeOf(0)}, {impl.Sample{}, always(5, 1), always(5, 1), always(5, 1)}},
			draw: func(r *rand.Rand) []any {
				s := drawPoints(r, 16)
				return append([]any{s}, draw(r, len(s.Points[0]))...)
			},
		},
	}
}

func allStumpContracts() []contract {
	return slices.Concat(boostContracts(), heftContracts(), juryContracts(), choiceContracts())
}

// Promise 13: each function fails for each argument that is not valid, with zero values.
func TestFunctionsOfStumpsFail(t *testing.T) {
	for _, c := range allStumpContracts() {
		checkContract(t, c)
	}
}

// Promise 13: each function returns, and the same again, changes no argument, and has results
// in memory of their own.
func TestFunctionsOfStumpsAreTotal(t *testing.T) {
	for i, c := range allStumpContracts() {
		checkDraws(t, c, int64(250+i), 1000)
	}
}

// The functions of a Sample alone return for the greatest Samples, too, and those that need no points
// for the Samples without them.
func TestFunctionsOfTheLeastAndGreatestSamples(t *testing.T) {
	great := []impl.Sample{greatSample(), repeated(16, -1, 9, -9, 9, -9), repeated(1, 1, -9), repeated(1, -1, 9, 9, 9, 9), {}}
	for _, s := range great {
		points, d := len(s.Points) > 0, 2
		if points {
			d = len(s.Points[0])
		}
		most := slices.Repeat([]int{1000000}, len(s.Points))
		for name, call := range map[string]struct {
			f    any
			more []any
			want bool
		}{
			"StumpsOf": {impl.StumpsOf, nil, points}, "BestChoice": {impl.BestChoice, nil, points},
			"BestStump": {impl.BestStump, []any{most}, points}, "BoostRounds": {impl.BoostRounds, []any{8}, points}, "BoostBound": {impl.BoostBound, []any{8}, points},
			"WeightedMistakes": {impl.WeightedMistakes, []any{most, always(d, 1)}, true}, "UniformHefts": {impl.UniformHefts, []any{1000000}, true},
			"JuryMistakes": {impl.JuryMistakes, []any{splitJury(d, 4, 5)}, true}, "SidesSample": {impl.SidesSample, []any{splitJury(d, 2, 2)}, true},
			"ChoiceMistakes": {impl.ChoiceMistakes, []any{always(d, 1), always(d, -1), always(d, 1)}, true},
			"FittingJury":    {impl.FittingJury, []any{3}, points && len(s.Points) <= 8},
		} {
			if done := checkCall(t, name, call.f, append([]any{roomySample(s)}, call.more...)); done != call.want {
				t.Errorf("%s of %v: %v", name, s, done)
			}
		}
	}
}

// Results in which the same stump stands several times have memory of their own for each.
func TestRepeatedStumpsAreNew(t *testing.T) {
	s := sampleOf([]int{1}, []int{5})
	rounds, _, _ := impl.BoostRounds(s, 8)
	jury, _ := impl.FittingJury(s, 3)
	root, low, high, _ := impl.BestChoice(s)
	for _, list := range [][]impl.Plane{rounds, jury, {root, low, high}} {
		if !sameText(list, slices.Repeat(stumpList([]int{5}, nil), len(list))) {
			t.Fatal(list)
		}
		for i := range list {
			list[i].Weights[0] = 7 + i
		}
		for i, p := range list {
			if p.Weights[0] != 7+i {
				t.Errorf("%v", list)
			}
		}
	}
}
