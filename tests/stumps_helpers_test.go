package tests

import (
	"math"
	"math/rand"
	"slices"

	"loop.example/g01135/impl"
)

// The functions of this file follow the document's definitions of chapter 8 apart from the
// program.

// stumpWith returns the stump with a weight at one of d places.
func stumpWith(d, place, weight, bound int) impl.Plane {
	weights := make([]int, d)
	weights[place] = weight
	return planeOf(bound, weights...)
}

// stumpList returns stumps by their Bounds: a list of these for each place, first for the Weight 1
// and then for -1.
func stumpList(bounds ...[]int) []impl.Plane {
	list := []impl.Plane{}
	for i, some := range bounds {
		for _, bound := range some {
			list = append(list, stumpWith(len(bounds)/2, i/2, 1-i%2*2, bound))
		}
	}
	return list
}

// isStumpBy tells whether a Plane is one of all stumps with as many Weights and the same Bound.
func isStumpBy(p impl.Plane) bool {
	d := len(p.Weights)
	for place := range min(d, 4) {
		for _, weight := range []int{1, -1} {
			if d <= 4 && p.Bound >= -99 && p.Bound <= 99 && sameText(p, stumpWith(d, place, weight, p.Bound)) {
				return true
			}
		}
	}
	return false
}

// isBoundBy tells whether a Bound is a product of a stump's Weights and a point, or the greatest one
// and 1.
func isBoundBy(s impl.Sample, place, weight, bound int) bool {
	greatest := math.MinInt
	for _, x := range s.Points {
		if x[place]*weight == bound {
			return true
		}
		greatest = max(greatest, x[place]*weight)
	}
	return bound == greatest+1
}

// stumpsBy tries all Bounds that there can be.
func stumpsBy(s impl.Sample) []impl.Plane {
	list := []impl.Plane{}
	d := len(s.Points[0])
	for place := range d {
		for _, weight := range []int{1, -1} {
			for bound := -20; bound <= 20; bound++ {
				if isBoundBy(s, place, weight, bound) {
					list = append(list, stumpWith(d, place, weight, bound))
				}
			}
		}
	}
	return list
}

func weightedBy(s impl.Sample, hefts []int, p impl.Plane) int {
	sum := 0
	for _, place := range mistakesBy(s, p) {
		sum += hefts[place]
	}
	return sum
}

// bestBy goes through all stumps from the last one back.
func bestBy(s impl.Sample, hefts []int) impl.Plane {
	best, least := impl.Plane{}, math.MaxInt
	for _, p := range slices.Backward(stumpsBy(s)) {
		if sum := weightedBy(s, hefts, p); sum <= least {
			best, least = p, sum
		}
	}
	return best
}

// boostedBy counts for each round how many stumps of the rounds before are wrong at each point.
func boostedBy(s impl.Sample, rounds int) ([]impl.Plane, []int) {
	stumps, hefts := []impl.Plane{}, make([]int, len(s.Points))
	for round := 0; ; round++ {
		for i := range hefts {
			hefts[i] = power(2, wrongBy(s, stumps, i))
		}
		if round == rounds {
			return stumps, hefts
		}
		stumps = append(stumps, bestBy(s, hefts))
	}
}

// wrongBy counts the Planes of which a point is a mistake.
func wrongBy(s impl.Sample, planes []impl.Plane, place int) int {
	wrong := 0
	for _, p := range planes {
		if sideBy(p, s.Points[place]) != s.Labels[place] {
			wrong++
		}
	}
	return wrong
}

// jurySideBy is 1 if at least half of the Planes have the side 1.
func jurySideBy(jury []impl.Plane, x []int) int {
	ones := 0
	for _, p := range jury {
		if sideBy(p, x) == 1 {
			ones++
		}
	}
	if 2*ones >= len(jury) {
		return 1
	}
	return -1
}

// mistakesWith returns the places of the points for which a side is not their label.
func mistakesWith(s impl.Sample, side func(x []int) int) []int {
	list := []int{}
	for i, x := range s.Points {
		if side(x) != s.Labels[i] {
			list = append(list, i)
		}
	}
	return list
}

func juryMistakesBy(s impl.Sample, jury []impl.Plane) []int {
	return mistakesWith(s, func(x []int) int { return jurySideBy(jury, x) })
}

// risingLists returns all lists of k of the numbers 0..n-1 that are not less than the one before,
// in lexicographic order.
func risingLists(n, k int) [][]int {
	all := [][]int{{}}
	for range k {
		longer := [][]int{}
		for _, list := range all {
			from := 0
			if len(list) > 0 {
				from = list[len(list)-1]
			}
			for number := from; number < n; number++ {
				longer = append(longer, append(slices.Clone(list), number))
			}
		}
		all = longer
	}
	return all
}

// fittingBy tries all juries of k stumps, and returns the first one without mistakes, and whether
// there is one.
func fittingBy(s impl.Sample, k int) ([]impl.Plane, bool) {
	stumps := stumpsBy(s)
	for _, list := range risingLists(len(stumps), k) {
		jury := []impl.Plane{}
		for _, place := range list {
			jury = append(jury, stumps[place])
		}
		if len(juryMistakesBy(s, jury)) == 0 {
			return jury, true
		}
	}
	return nil, false
}

// choiceOf is a choice of three Planes.
type choiceOf struct{ root, low, high impl.Plane }

func (c choiceOf) sideBy(x []int) int {
	return map[int]int{1: sideBy(c.high, x), -1: sideBy(c.low, x)}[sideBy(c.root, x)]
}

func (c choiceOf) mistakesBy(s impl.Sample) []int { return mistakesWith(s, c.sideBy) }

// bestWithBy returns the best stump of the points with a side for root, or root.
func bestWithBy(s impl.Sample, root impl.Plane, side int) impl.Plane {
	part := partOf(s, mistakesBy(labelledAs(s, -side), root))
	if len(part.Points) == 0 {
		return root
	}
	return bestBy(part, slices.Repeat([]int{1}, len(part.Points)))
}

// labelledAs returns the Sample with the same label for all points.
func labelledAs(s impl.Sample, label int) impl.Sample {
	return impl.Sample{Points: s.Points, Labels: slices.Repeat([]int{label}, len(s.Points))}
}

// choicesBy returns the choices of which the best one is taken, that of each root.
func choicesBy(s impl.Sample) []choiceOf {
	list := []choiceOf{}
	for _, root := range stumpsBy(s) {
		list = append(list, choiceOf{root, bestWithBy(s, root, -1), bestWithBy(s, root, 1)})
	}
	return list
}

func bestChoiceBy(s impl.Sample) choiceOf {
	return slices.MinFunc(choicesBy(s), func(a, b choiceOf) int { return len(a.mistakesBy(s)) - len(b.mistakesBy(s)) })
}

// heftsFor returns hefts of many kinds for n points.
func heftsFor(r *rand.Rand, n int) [][]int {
	single, few, many, great := make([]int, n), []int{}, []int{}, []int{}
	single[r.Intn(n)] = 1 + r.Intn(1000000)
	for range n {
		few = append(few, r.Intn(3))
		many = append(many, r.Intn(1000001))
		great = append(great, 1000000-r.Intn(2))
	}
	return [][]int{make([]int, n), slices.Repeat([]int{1}, n), slices.Repeat([]int{1000000}, n), single, few, many, great}
}

// notHefts returns lists that are no hefts for n points.
func notHefts(n int) [][]int { return notListsTo(1000000, n) }

// notListsTo returns lists that are none of n numbers in 0..most.
func notListsTo(most, n int) [][]int {
	all := [][]int{make([]int, n+1), slices.Repeat([]int{1}, n+1), make([]int, n+100)}
	if n == 0 {
		return all
	}
	all = append(all, nil, []int{}, make([]int, n-1))
	for _, number := range []int{-1, most + 1, -most, 2 * most, math.MinInt, math.MaxInt} {
		for _, place := range []int{0, n - 1} {
			list := slices.Repeat([]int{1}, n)
			list[place] = number
			all = append(all, list)
		}
	}
	return all
}

// eachSmallest calls a function with all Samples of 1 up to most points of one number in -1..1, and of
// 1 up to 3 points of two numbers 0 or 1.
func eachSmallest(most int, call func(s impl.Sample)) {
	eachSmallSample(most, call)
	for n := 1; n <= 3; n++ {
		for k := range power(8, n) {
			s := impl.Sample{}
			for _, digit := range digits(k, 8, n) {
				s.Points = append(s.Points, []int{digit % 2, digit / 2 % 2})
				s.Labels = append(s.Labels, digit/4*2-1)
			}
			call(s)
		}
	}
}

// eachFewPoints calls a function with Samples of 1 up to most points of each length: with few
// different numbers and with many, with labels at random and with those of a jury and of a choice of
// stumps, and with the same point twice.
func eachFewPoints(seed int64, most int, call func(s impl.Sample)) {
	r := rand.New(rand.NewSource(seed))
	for d := 1; d <= 4; d++ {
		for n := 1; n <= most; n++ {
			for _, limit := range []int{1, 2, 9} {
				s := randomSample(r, n, d, limit)
				call(s)
				for _, side := range drawSides(r, s) {
					for i, x := range s.Points {
						s.Labels[i] = side(x)
					}
					call(s)
				}
				s.Points[n-1] = slices.Clone(s.Points[0])
				call(s)
				s.Labels[n-1] *= -1
				call(s)
			}
		}
	}
}

// drawStump returns one of the stumps of a Sample.
func drawStump(r *rand.Rand, s impl.Sample) impl.Plane {
	stumps := stumpsBy(s)
	return stumps[r.Intn(len(stumps))]
}

// drawSides returns the sides of juries of one up to 4 stumps of a Sample and of a choice of them.
func drawSides(r *rand.Rand, s impl.Sample) []func(x []int) int {
	sides := []func(x []int) int{choiceOf{drawStump(r, s), drawStump(r, s), drawStump(r, s)}.sideBy}
	for size := 1; size <= 4; size++ {
		jury := []impl.Plane{}
		for range size {
			jury = append(jury, drawStump(r, s))
		}
		sides = append(sides, func(x []int) int { return jurySideBy(jury, x) })
	}
	return sides
}

// drawJury returns a jury of any Planes.
func drawJury(r *rand.Rand, size, d, limit int) []impl.Plane {
	jury := []impl.Plane{}
	for range size {
		jury = append(jury, randomPlane(r, d, limit))
	}
	return jury
}

// badBoosts are no numbers of rounds of boosting, and badJurySizes none of Planes of a FittingJury.
func badBoosts() []any    { return values(-1, 9, 10, -8, math.MinInt, math.MaxInt) }
func badJurySizes() []any { return values(0, 4, 5, -1, -3, 9, math.MinInt, math.MaxInt) }
