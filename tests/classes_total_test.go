package tests

import (
	"math"
	"math/rand"
	"slices"
	"testing"

	"loop.example/g01135/impl"
)

// threeHypotheses returns a class of 3 places.
func threeHypotheses() [][]int { return roomyRows(classOfText("--- -+- ++-")) }

// drawHypotheses returns a class, of which sometimes a label is another number or two hypotheses
// are in another order.
func drawHypotheses(r *rand.Rand) [][]int {
	m := r.Intn(7)
	class := drawClass(r, m, 1+r.Intn(min(1<<m, 20)))
	i, k := r.Intn(len(class)), r.Intn(len(class))
	switch r.Intn(8) {
	case 0:
		class[i], class[k] = class[k], class[i]
	case 1:
		class[i] = append(class[i], r.Intn(3)-1)
	case 2:
		for place := range class[i] {
			class[i][place] *= r.Intn(3)
		}
	}
	return roomyRows(class)
}

// placesOf returns the number of places of a class.
func placesOf(class [][]int) int { return len(class[0]) }

// classContract returns that of a function of a class alone.
func classContract(name string, f any) contract {
	return contract{
		name: name, f: f, valid: []any{threeHypotheses()}, wrong: [][]any{lists(notClasses()...)},
		draw: func(r *rand.Rand) []any { return []any{drawHypotheses(r)} },
	}
}

// classContracts returns those of the functions of a class.
func classContracts() []contract {
	first := classContract("FirstQuestion", impl.FirstQuestion)
	for _, class := range oneHypothesis() {
		first = withMisfits(first, []any{class})
	}
	return []contract{
		classContract("IsClass", impl.IsClass),
		classContract("ShatteredSets", impl.ShatteredSets),
		classContract("VapnikNumber", impl.VapnikNumber),
		classContract("TeachingNumber", impl.TeachingNumber),
		classContract("MistakeNumber", impl.MistakeNumber),
		classContract("QuestionNumber", impl.QuestionNumber),
		first,
	}
}

// oneHypothesis returns classes of one hypothesis.
func oneHypothesis() [][][]int {
	return [][][]int{{{}}, {nil}, {{1}}, {{-1}}, {{-1, 1}}, {slices.Repeat([]int{1}, 8)}, {slices.Repeat([]int{-1}, 8)}}
}

// drawClassWith returns a class and behind it what a function returns for it.
func drawClassWith(more func(r *rand.Rand, class [][]int) []any) func(r *rand.Rand) []any {
	return func(r *rand.Rand) []any {
		class := drawHypotheses(r)
		return append([]any{class}, more(r, class)...)
	}
}

// placeContracts returns those of the functions of a class and of sets, hypotheses and orders.
func placeContracts() []contract {
	none := lists(notClasses()...)
	sets := values(notSets()...)
	hypotheses := values(-1, 3, 4, 8, 256, math.MinInt, math.MaxInt)
	empty := [][]int{{}}
	ofSet := func(name string, f any) contract {
		return contract{
			name: name, f: f, valid: []any{threeHypotheses(), roomy([]int{0, 2}, 60)}, wrong: [][]any{none, sets},
			misfit: [][]any{{[][]int{}, []int{}}, {empty, []int{0}}, {labelsOf(8), []int{8}}, {[][]int{{1}, {-1}}, []int{0}}, {labelsOf(9), []int{8}}},
			draw:   drawClassWith(func(r *rand.Rand, class [][]int) []any { return drawSet(r, placesOf(class)) }),
		}
	}
	return []contract{
		ofSet("TracesOf", impl.TracesOf), ofSet("ShattersSet", impl.ShattersSet),
		{
			name: "TeachingSet", f: impl.TeachingSet, valid: []any{threeHypotheses(), 1}, wrong: [][]any{none, hypotheses},
			misfit: [][]any{{[][]int{}, 0}, {empty, 1}, {empty, -1}, {labelsOf(8), 256}, {[][]int{{1}, {-1}}, 0}},
			draw:   drawClassWith(func(r *rand.Rand, class [][]int) []any { return []any{r.Intn(len(class)+2) - 1} }),
		},
		{
			name: "VersionOf", f: impl.VersionOf, valid: []any{threeHypotheses(), roomy([]int{0, 2}, 61), roomy([]int{-1, 1}, 62)},
			wrong: [][]any{none, append(values([]int{}, []int{0}, []int{0, 1, 2}), sets...), intLists(nil, []int{}, []int{1}, []int{1, 1, 1}, []int{0, 1}, []int{1, 2}, []int{-2, 1}, []int{math.MinInt, 1}, []int{1, math.MaxInt}, make([]int, 100))},
			misfit: [][]any{
				{[][]int{}, []int{}, []int{}}, {empty, []int{0}, []int{1}}, {empty, []int{}, []int{1}}, {threeHypotheses(), []int{0, 0}, []int{-1, -1}},
				{threeHypotheses(), []int{2, 0}, []int{-1, -1}}, {threeHypotheses(), []int{}, []int{1}}, {labelsOf(8), []int{8}, []int{1}},
			},
			draw: drawClassWith(func(r *rand.Rand, class [][]int) []any {
				set := drawSet(r, placesOf(class))
				labels := make([]int, len(set[0].([]int)))
				for i := range labels {
					labels[i] = 2*r.Intn(2) - 1
				}
				return append(set, roomy(labels, 63))
			}),
		},
		{
			name: "HalvingPlay", f: impl.HalvingPlay, valid: []any{threeHypotheses(), 2, roomy([]int{2, 0, 1}, 64)},
			wrong:  [][]any{none, hypotheses, intLists([]int{0, 0}, []int{2, 0, 2}, []int{0, 1, 2, 0}, []int{0, 3}, []int{3}, []int{-1}, []int{0, -1, 1}, []int{math.MinInt}, []int{math.MaxInt}, make([]int, 100))},
			misfit: [][]any{{[][]int{}, 0, []int{}}, {empty, 0, []int{0}}, {empty, 1, []int{}}, {labelsOf(8), 0, []int{8}}, {labelsOf(8), 256, []int{}}, {labelsOf(8), 0, []int{0, 1, 2, 3, 4, 5, 6, 7, 0}}},
			draw: drawClassWith(func(r *rand.Rand, class [][]int) []any {
				return append([]any{r.Intn(len(class))}, drawOrder(r, placesOf(class))...)
			}),
		},
	}
}

// madeClassContracts returns those of the functions that make classes, and of SauerBound.
func madeClassContracts() []contract {
	points := roomyRows([][]int{{1, 2}, {3, 0}, {1, 2}, {-1, 1}})
	noPoints := lists([][]int{{}}, [][]int{nil}, [][]int{{1}, {1, 2}}, [][]int{{1, 2}, {1}}, make([][]int, 8), make([][]int, 100), repeated(9, 1, 1).Points, repeated(16, 1, 1, 2).Points, repeated(17, 1, 1, 2).Points)
	for _, x := range notPoints() {
		noPoints = append(noPoints, [][]int{x}, [][]int{{1, 2}, x})
	}
	counts := values(notLabelCounts()...)
	return []contract{
		{
			name: "PlaneClass", f: impl.PlaneClass, valid: []any{points}, wrong: [][]any{noPoints},
			draw: func(r *rand.Rand) []any {
				return []any{roomyRows(randomSample(r, r.Intn(10), 1+r.Intn(4), 1+r.Intn(9)).Points)}
			},
		},
		{
			name: "IntervalClass", f: impl.IntervalClass, valid: []any{3}, wrong: [][]any{counts},
			draw: func(r *rand.Rand) []any { return []any{r.Intn(11) - 1} },
		},
		{
			name: "SauerBound", f: impl.SauerBound, valid: []any{3, 2}, wrong: [][]any{counts, counts},
			draw: func(r *rand.Rand) []any { return []any{r.Intn(11) - 1, r.Intn(11) - 1} },
		},
	}
}

func allClassContracts() []contract {
	return slices.Concat(classContracts(), placeContracts(), madeClassContracts())
}

// Promise 13: each function fails for each argument that is not valid, with zero values.
func TestFunctionsOfClassesFail(t *testing.T) {
	for _, c := range allClassContracts() {
		checkContract(t, c)
	}
}

// Promise 13: each function returns, and the same again, changes no argument, and has results in
// memory of their own.
func TestFunctionsOfClassesAreTotal(t *testing.T) {
	for i, c := range allClassContracts() {
		checkDraws(t, c, int64(440+i), 400)
	}
}

// The functions do not fail for the least classes and for the greatest ones; only FirstQuestion
// does for those of one hypothesis.
func TestFunctionsOfTheLeastAndGreatestClasses(t *testing.T) {
	great := [][][]int{labelsOf(8), labelsOf(8)[1:], labelsOf(8)[:255], labelsOf(1), labelsOf(7)}
	for _, class := range slices.Concat(oneHypothesis(), great) {
		m, last := placesOf(class), len(class)-1
		all := placesBesides(m, nil)
		for _, c := range classContracts() {
			want := c.name != "FirstQuestion" || last > 0
			if done := checkCall(t, c.name, c.f, []any{roomyRows(class)}); done != want {
				t.Errorf("%s of %.100v: %v", c.name, class, done)
			}
		}
		for name, call := range map[string]struct {
			f    any
			more [][]any
		}{
			"TracesOf": {impl.TracesOf, [][]any{{[]int{}}, {all}}}, "ShattersSet": {impl.ShattersSet, [][]any{{[]int(nil)}, {all}}},
			"TeachingSet": {impl.TeachingSet, [][]any{{0}, {last}}},
			"VersionOf":   {impl.VersionOf, [][]any{{[]int{}, []int{}}, {[]int(nil), []int(nil)}, {all, class[last]}, {all, slices.Repeat([]int{1}, m)}}},
			"HalvingPlay": {impl.HalvingPlay, [][]any{{0, []int{}}, {last, []int(nil)}, {0, all}, {last, all}}},
		} {
			for _, more := range call.more {
				if !checkCall(t, name, call.f, append([]any{roomyRows(class)}, more...)) {
					t.Errorf("%s of %.100v fails for %v", name, class, more)
				}
			}
		}
	}
}
