package tests

import (
	"math"
	"math/rand"
	"slices"

	"loop.example/g01135/impl"
)

// The functions of this file follow the document's definitions of chapter 10 apart from the
// program.

func distanceBy(x, y []int) int {
	sum := 0
	for i := range x {
		sum += (x[i] - y[i]) * (x[i] - y[i])
	}
	return sum
}

// neighborsBy puts the place of each point where as many points come before it.
func neighborsBy(s impl.Sample, x []int) []int {
	order := make([]int, len(s.Points))
	for i, y := range s.Points {
		before := 0
		for j, z := range s.Points {
			far, own := distanceBy(x, z), distanceBy(x, y)
			if far < own || far == own && j < i {
				before++
			}
		}
		order[before] = i
	}
	return order
}

// nearLabelBy is 1 if at least half of the first k neighbors have the label 1.
func nearLabelBy(s impl.Sample, x []int, k int) int {
	ones := 0
	for _, place := range neighborsBy(s, x)[:k] {
		if s.Labels[place] == 1 {
			ones++
		}
	}
	if 2*ones >= k {
		return 1
	}
	return -1
}

func leftOutBy(s impl.Sample, k int) []int {
	list := []int{}
	for i, x := range s.Points {
		if nearLabelBy(restOf(s, []int{i}), x, k) != s.Labels[i] {
			list = append(list, i)
		}
	}
	return list
}

// keepsBy tells whether each point is as near to one of the places with its label as to all those
// with the other one, and nearer if that with the other one comes before it.
func keepsBy(s impl.Sample, places []int) bool {
	part := partOf(s, places)
	return len(mistakesWith(s, func(x []int) int { return nearLabelBy(part, x, 1) })) == 0
}

func isCleanBy(s impl.Sample) bool {
	for i, x := range s.Points {
		for j, y := range s.Points {
			if s.Labels[i] != s.Labels[j] && slices.Equal(x, y) {
				return false
			}
		}
	}
	return true
}

// condensedBy keeps for each point whether its place was added, and returns the places, and how
// many passes have added some.
func condensedBy(s impl.Sample) ([]int, int) {
	added := make([]bool, len(s.Points))
	added[0] = true
	places := func() []int {
		return slices.DeleteFunc(placesBesides(len(added), nil), func(i int) bool { return !added[i] })
	}
	for passes := 0; ; passes++ {
		before := len(places())
		for i, x := range s.Points {
			if nearLabelBy(partOf(s, places()), x, 1) != s.Labels[i] {
				added[i] = true
			}
		}
		if len(places()) == before {
			return places(), passes
		}
	}
}

func fewestBy(s impl.Sample) []int {
	sets := setsOf(len(s.Points), len(s.Points))[1:]
	return sets[slices.IndexFunc(sets, func(set []int) bool { return keepsBy(s, set) })]
}

// tensorBy returns all products of e of the numbers of a point and 1. The sum of the products of
// such lists of two points, place by place, is their kernel.
func tensorBy(x []int, e int) []int {
	list := []int{1}
	for range e {
		longer := []int{}
		for _, n := range list {
			longer = append(longer, n)
			for _, number := range x {
				longer = append(longer, n*number)
			}
		}
		list = longer
	}
	return list
}

func innerBy(a, b []int) int {
	sum := 0
	for i := range a {
		sum += a[i] * b[i]
	}
	return sum
}

// tensorSumBy returns the sum of the lists of all points with points, each times its label and its
// count.
func tensorSumBy(s impl.Sample, counts []int, e int) []int {
	sum := make([]int, power(len(s.Points[0])+1, e))
	for i, x := range s.Points {
		addTimes(sum, tensorBy(x, e), s.Labels[i]*counts[i])
	}
	return sum
}

func addTimes(sum, list []int, times int) {
	for i, n := range list {
		sum[i] += times * n
	}
}

func forceBy(s impl.Sample, counts []int, e int, x []int) int {
	if len(s.Points) == 0 {
		return 0
	}
	return innerBy(tensorSumBy(s, counts, e), tensorBy(x, e))
}

func kernelMistakesBy(s impl.Sample, counts []int, e int) []int {
	return mistakesWith(s, func(x []int) int { return labelBy(forceBy(s, counts, e, x)) })
}

func labelBy(n int) int {
	if n < 0 {
		return -1
	}
	return 1
}

// kernelRunBy makes a kernel run that keeps the sum of the points' lists, and not their counts. It
// returns how often each point was added behind each pass, the beginning included.
func kernelRunBy(s impl.Sample, e, passes int) [][]int {
	counts := make([]int, len(s.Points))
	behind := [][]int{slices.Clone(counts)}
	if len(s.Points) == 0 {
		return slices.Repeat(behind, passes+1)
	}
	sum := tensorSumBy(s, counts, e)
	for range passes {
		for i, x := range s.Points {
			list := tensorBy(x, e)
			if labelBy(innerBy(sum, list)) != s.Labels[i] {
				addTimes(sum, list, s.Labels[i])
				counts[i]++
			}
		}
		behind = append(behind, slices.Clone(counts))
	}
	return behind
}

// calmBy returns how many of the last passes have changed no count.
func calmBy(behind [][]int) int {
	last := len(behind) - 1
	return last - slices.IndexFunc(behind, func(counts []int) bool { return slices.Equal(counts, behind[last]) })
}

func kernelSquareBy(s impl.Sample, counts []int, e int) int {
	if len(s.Points) == 0 {
		return 0
	}
	sum := tensorSumBy(s, counts, e)
	return innerBy(sum, sum)
}

// eachClean calls a function with all clean Samples of eachFewPoints and eachSmallest.
func eachClean(seed int64, most int, call func(s impl.Sample)) {
	clean := func(s impl.Sample) {
		if isCleanBy(s) {
			call(s)
		}
	}
	eachSmallest(4, clean)
	eachFewPoints(seed, most, clean)
}

// pointsFor returns points with as many numbers as those of a Sample: some of these, and others
// near them and far away.
func pointsFor(r *rand.Rand, s impl.Sample) [][]int {
	d := len(s.Points[0])
	points := [][]int{make([]int, d), slices.Repeat([]int{9}, d), randomList(r, d, 1), randomList(r, d, 9)}
	return append(points, s.Points[0], s.Points[r.Intn(len(s.Points))])
}

// countsFor returns counts of many kinds for n points.
func countsFor(r *rand.Rand, n int) [][]int {
	few, many := []int{}, []int{}
	for range n {
		few = append(few, r.Intn(3))
		many = append(many, r.Intn(1000))
	}
	all := [][]int{make([]int, n), slices.Repeat([]int{1}, n), slices.Repeat([]int{999}, n), few, many}
	if n > 0 {
		single := make([]int, n)
		single[r.Intn(n)] = 1 + r.Intn(999)
		all = append(all, single)
	}
	return all
}

// notCounts returns lists that are no counts for n points.
func notCounts(n int) [][]int { return notListsTo(999, n) }

// notKeeping returns lists that are no strictly ascending lists of at least one of n places, n at
// least 2.
func notKeeping(n int) [][]int {
	return [][]int{
		nil, {}, {n}, {-1}, {0, n}, {-1, 0}, {0, 0}, {n - 1, n - 1}, {1, 0}, {0, 1, 0}, {0, 1, 1}, {n - 1, n}, {n + 100},
		{math.MinInt}, {math.MaxInt}, {0, math.MaxInt}, {math.MinInt, 0}, make([]int, n), make([]int, 10000), placesBesides(n+1, nil),
	}
}

func badDegrees() []any { return values(0, 4, 5, -1, -3, 64, math.MinInt, math.MaxInt) }
func badPasses() []any  { return values(-1, 11, 12, -10, math.MinInt, math.MaxInt) }
