package tests

import (
	"math"
	"math/rand"
	"slices"
	"testing"

	"loop.example/g01135/impl"
)

func badLabels() []any { return values(0, 2, -2, math.MinInt, math.MaxInt) }
func badRounds() []any { return values(0, 13, 100, -1, math.MinInt, math.MaxInt) }
func badBits() []any   { return values(2, -1, math.MinInt, math.MaxInt) }

// samplesWithout returns Samples without points, and those that are none.
func samplesWithout() []any {
	none := []impl.Sample{{}, {Points: [][]int{}, Labels: []int{}}}
	return values(append(none, notSamples()...)...)
}

func fourPoints() impl.Sample {
	return roomySample(sampleOf([]int{1, 1, -1, -1}, []int{1, 1}, []int{2, 2}, []int{-1, 0}, []int{-1, 0}))
}

func drawSample(r *rand.Rand, d int) impl.Sample {
	return roomySample(randomSample(r, r.Intn(17), d, 1+r.Intn(9)))
}

func drawPlane(r *rand.Rand, d int) impl.Plane {
	return impl.Plane{Weights: roomy(randomList(r, d, 20), 85), Bound: r.Intn(41) - 20}
}

// drawRun returns a Sample and a number of rounds.
func drawRun(r *rand.Rand) []any {
	return []any{drawSample(r, 1+r.Intn(4)), 1 + r.Intn(12)}
}

// drawFit returns a Sample and a Plane that often fits it.
func drawFit(r *rand.Rand) []any {
	d := 1 + r.Intn(4)
	s, p := drawSample(r, d), drawPlane(r, d)
	if r.Intn(3) > 0 {
		s = roomySample(labelledBy(s, p))
	}
	return []any{s, p}
}

// perceptronContracts returns those of the functions of Planes.
func perceptronContracts() []contract {
	runs := func(name string, f any) contract {
		return contract{
			name: name, f: f, valid: []any{fourPoints(), 4}, wrong: [][]any{samplesWithout(), badRounds()},
			misfit: [][]any{{sampleOf(nil), 12}, {roomySample(impl.Sample{}), 1}}, draw: drawRun,
		}
	}
	planes := func(name string, f any) contract {
		p := impl.Plane{Weights: roomy([]int{2, 1}, 86)}
		others := values(planeOf(0, 1), planeOf(0, 1, 1, 1), planeOf(0, 1, 1, 1, 1))
		return contract{
			name: name, f: f, valid: []any{fourPoints(), p}, draw: drawFit,
			wrong:  [][]any{samplesWithout(), append(others, values(notPlanes()...)...)},
			misfit: [][]any{{impl.Sample{}, p}, {sampleOf([]int{1}, []int{1}), p}, {sampleOf([]int{1}, []int{1, 1, 1}), p}},
		}
	}
	return []contract{
		{
			name: "StepPerceptron", f: impl.StepPerceptron, valid: []any{planeOf(0, 1, 1), roomy([]int{-1, 0}, 87), 1},
			wrong:  [][]any{append(values(planeOf(0, 1), planeOf(0, 1, 1, 1)), values(notPlanes()...)...), append(values(otherLengths()...), values(notPoints()...)...), badLabels()},
			misfit: [][]any{{planeOf(99, 99), []int{1}, -1}, {planeOf(1, 99, -99), []int{1, 1}, 1}},
			draw: func(r *rand.Rand) []any {
				d := 1 + r.Intn(4)
				return []any{drawPlane(r, d), roomy(randomList(r, d, 9), 88), 2*r.Intn(2) - 1}
			},
		},
		runs("RunPerceptron", impl.RunPerceptron), runs("PerceptronTrace", impl.PerceptronTrace),
		runs("DualCounts", impl.DualCounts), runs("PocketPlane", impl.PocketPlane),
		{
			name: "PlaneOfCounts", f: impl.PlaneOfCounts, valid: []any{fourPoints(), roomy([]int{1, 2, 0, 3}, 89)},
			wrong:  [][]any{samplesWithout(), values([]int(nil), []int{1, 2, 0}, []int{1, 2, 0, 3, 0}, []int{0, 0, 0, -1}, []int{1000, 0, 0, 0}, []int{0, 0, math.MinInt, 0})},
			misfit: [][]any{{impl.Sample{}, []int{}}, {sampleOf([]int{1}, []int{0}), []int{100}}},
			draw: func(r *rand.Rand) []any {
				s, counts := drawSample(r, 1+r.Intn(4)), []int{}
				for range s.Points {
					counts = append(counts, r.Intn(4))
				}
				return []any{s, roomy(counts, 90)}
			},
		},
		planes("MarginOf", impl.MarginOf), planes("MistakeBound", impl.MistakeBound),
	}
}

// lists returns the lists of rows as values.
func lists(all ...[][]int) []any { return values(all...) }

func roomyRows(rows [][]int) [][]int {
	list := [][]int{}
	for _, row := range rows {
		list = append(list, roomy(row, 91))
	}
	return roomy(list, []int{92})
}

// winnowContracts returns those of the functions of shares.
func winnowContracts() []contract {
	rows := roomyRows([][]int{{1, 0}, {0, 1}, {1, 1}})
	counts := append(values(badCounts()...), values(1, 3, 8)...)
	return []contract{
		{
			name: "AreShares", f: impl.AreShares, valid: []any{roomy([]int{0, 16}, 93)}, wrong: [][]any{values(notShares()...)},
			draw: func(r *rand.Rand) []any { return []any{roomy(digits(r.Int(), 17, r.Intn(9)), 94)} },
		},
		{
			name: "StepWinnow", f: impl.StepWinnow, valid: []any{roomy([]int{1, 5}, 95), roomy([]int{1, 1}, 96), 0},
			wrong:  [][]any{append(values(otherLengths()...), values(notShares()...)...), values([]int(nil), []int{1}, []int{1, 0, 0}, []int{2, 1}, []int{-1, 1}), badBits()},
			misfit: [][]any{{[]int{}, []int{}, 0}, {make([]int, 9), make([]int, 9), 1}},
			draw: func(r *rand.Rand) []any {
				n := 1 + r.Intn(8)
				return []any{roomy(digits(r.Int(), 9, n), 97), roomy(digits(r.Int(), 2, n), 98), r.Intn(2)}
			},
		},
		{
			name: "RunWinnow", f: impl.RunWinnow, valid: []any{2, rows, roomy([]int{1, 0, 1}, 70)},
			wrong:  [][]any{counts, append(lists(nil, rows[:2], slices.Concat(rows, [][]int{{1, 1}})), lists(badRows()...)...), values([]int(nil), []int{1, 0}, []int{1, 0, 1, 0}, []int{1, 0, 2}, []int{-1, 0, 1})},
			misfit: [][]any{{0, [][]int{}, []int{}}, {9, [][]int{}, []int{}}, {1, slices.Repeat([][]int{{1}}, 41), make([]int, 41)}},
			draw: func(r *rand.Rand) []any {
				n := 1 + r.Intn(8)
				rows, answers := randomGame(r, n, r.Intn(41))
				return []any{n, roomyRows(rows), roomy(answers, 71)}
			},
		},
		{
			name: "OrAnswers", f: impl.OrAnswers, valid: []any{2, rows, roomy([]int{0, 1}, 72)},
			wrong:  [][]any{counts, lists(badRows()...), values([]int{2}, []int{1, 0}, []int{0, 0}, []int{-1}, []int{0, 1, 2}, []int{math.MinInt})},
			misfit: [][]any{{0, [][]int{}, []int{}}, {9, [][]int{}, []int{}}, {3, [][]int{}, []int{3}}},
			draw: func(r *rand.Rand) []any {
				n := 1 + r.Intn(8)
				rows, _ := randomGame(r, n, r.Intn(41))
				first := r.Intn(n)
				return []any{n, roomyRows(rows), roomy([]int{first, first + 1 + r.Intn(4)}, 73)}
			},
		},
		{
			name: "WinnowBound", f: impl.WinnowBound, valid: []any{4, 3},
			wrong: [][]any{append(values(badCounts()...), values(1, 2)...), values(5, 8, -1, math.MinInt, math.MaxInt)},
			draw:  func(r *rand.Rand) []any { return []any{r.Intn(10), r.Intn(6)} },
		},
	}
}

// Promise 13: each function fails for each argument that is not valid, with zero values.
func TestFunctionsOfPerceptronsFail(t *testing.T) {
	for _, c := range slices.Concat(perceptronContracts(), winnowContracts()) {
		checkContract(t, c)
	}
}

// Promise 13: each function returns, and the same again, changes no argument, and has results
// in memory of their own.
func TestFunctionsOfPerceptronsAreTotal(t *testing.T) {
	for i, c := range slices.Concat(perceptronContracts(), winnowContracts()) {
		checkDraws(t, c, int64(50+i), 1500)
	}
}

// A step that leaves the Plane as it is, and a turn that leaves the shares, give new memory.
func TestKeptPlanesAndSharesAreNew(t *testing.T) {
	p, shares := planeOf(0, 3, 4), []int{2, 1}
	next, changed, one := impl.StepPerceptron(p, []int{1, 1}, 1)
	same, said, two := impl.StepWinnow(shares, []int{1, 0}, 1)
	if !one || changed || !two || !said || !slices.Equal(next.Weights, p.Weights) || !slices.Equal(same, shares) {
		t.Fatalf("%v, %v, %v; %v, %v, %v", next, changed, one, same, said, two)
	}
	next.Weights[0], same[0] = -9, 9
	if p.Weights[0] != 3 || shares[0] != 2 {
		t.Errorf("%v and %v were changed", p, shares)
	}
}
