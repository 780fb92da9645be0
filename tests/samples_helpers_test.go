package tests

import (
	"fmt"
	"math"
	"math/rand"
	"slices"

	"loop.example/g01135/impl"
)

// The functions of this file follow the document's definitions apart from the program; the
// tests hold the program's results against theirs.

func planeOf(bound int, weights ...int) impl.Plane {
	return impl.Plane{Weights: weights, Bound: bound}
}

func sampleOf(labels []int, points ...[]int) impl.Sample {
	return impl.Sample{Points: points, Labels: labels}
}

// repeated returns the Sample that has the point x and the label n times.
func repeated(n, label int, x ...int) impl.Sample {
	s := impl.Sample{}
	for range n {
		s.Points = append(s.Points, slices.Clone(x))
		s.Labels = append(s.Labels, label)
	}
	return s
}

func cloneSample(s impl.Sample) impl.Sample {
	c := impl.Sample{Labels: slices.Clone(s.Labels)}
	for _, x := range s.Points {
		c.Points = append(c.Points, slices.Clone(x))
	}
	return c
}

// sameText tells whether two values are the same, where nil and empty slices are equivalent.
func sameText(a, b any) bool { return fmt.Sprint(a) == fmt.Sprint(b) }

// sideBy is the side of a point by the document's definition.
func sideBy(p impl.Plane, x []int) int {
	left := -p.Bound
	for i, w := range p.Weights {
		left += w * x[i]
	}
	if left < 0 {
		return -1
	}
	return 1
}

func mistakesBy(s impl.Sample, p impl.Plane) []int {
	list := []int{}
	for i, x := range s.Points {
		if sideBy(p, x)*s.Labels[i] < 0 {
			list = append(list, i)
		}
	}
	return list
}

func randomList(r *rand.Rand, n, limit int) []int {
	list := make([]int, n)
	for i := range list {
		list[i] = r.Intn(2*limit+1) - limit
	}
	return list
}

// randomSample returns a Sample with n points of d numbers that are at most limit.
func randomSample(r *rand.Rand, n, d, limit int) impl.Sample {
	s := impl.Sample{}
	for range n {
		s.Points = append(s.Points, randomList(r, d, limit))
		s.Labels = append(s.Labels, 2*r.Intn(2)-1)
	}
	return s
}

func randomPlane(r *rand.Rand, d, limit int) impl.Plane {
	return impl.Plane{Weights: randomList(r, d, limit), Bound: r.Intn(2*limit+1) - limit}
}

// labelledBy gives the points the sides of a Plane as their labels, so that it fits.
func labelledBy(s impl.Sample, p impl.Plane) impl.Sample {
	fitted := cloneSample(s)
	for i, x := range fitted.Points {
		fitted.Labels[i] = sideBy(p, x)
	}
	return fitted
}

// eachPair calls a function with many Samples and Planes that suit them: with few and many
// points of each length, with labels that fit and with others.
func eachPair(seed int64, call func(s impl.Sample, p impl.Plane)) {
	r := rand.New(rand.NewSource(seed))
	for d := 1; d <= 4; d++ {
		for n := 0; n <= 16; n++ {
			for _, limit := range []int{1, 2, 9, 99} {
				p := randomPlane(r, d, limit)
				s := randomSample(r, n, d, min(limit, 9))
				call(s, p)
				s = labelledBy(s, p)
				call(s, p)
				if n > 0 {
					s.Labels[r.Intn(n)] *= -1
					call(s, p)
				}
			}
		}
	}
}

func notPoints() [][]int {
	return [][]int{
		nil, {}, {10}, {-10}, {math.MaxInt}, {math.MinInt}, {10, 0}, {0, 10}, {0, -10}, {0, math.MinInt},
		{0, 0, 10}, {0, 0, 0, -10}, {0, 0, 0, 0, 0}, {1, 2, 3, 4, 5, 6}, make([]int, 100),
	}
}

func notPlanes() []impl.Plane {
	return []impl.Plane{
		{}, planeOf(1), planeOf(100, 1), planeOf(-100, 1), planeOf(0, 100), planeOf(0, -100),
		planeOf(100, 1, 2), planeOf(-100, 1, 2), planeOf(math.MaxInt, 1, 2), planeOf(math.MinInt, 1, 2),
		planeOf(0, 1, 100), planeOf(0, 1, -100), planeOf(0, 100, 1), planeOf(0, math.MinInt, 1),
		planeOf(0, 1, math.MaxInt), planeOf(0, 1, 2, 3, 4, 5), planeOf(0, make([]int, 100)...),
	}
}

func notSamples() []impl.Sample {
	twice := []int{1, 1}
	list := []impl.Sample{
		sampleOf([]int{1}), sampleOf(nil, []int{1, 2}), sampleOf([]int{1}, []int{1, 2}, []int{1, 2}),
		sampleOf(twice, []int{1, 2}), sampleOf(twice, []int{1, 2}, []int{1}), sampleOf(twice, []int{1}, []int{1, 2}),
		sampleOf(twice, []int{1, 2}, []int{1, 2, 3}), sampleOf(twice, []int{1, 2}, nil), sampleOf(twice, nil, nil),
		sampleOf(make([]int, 100)), sampleOf(nil, make([][]int, 100)...),
		sampleOf([]int{0}, []int{1, 2}), sampleOf([]int{2}, []int{1, 2}), sampleOf([]int{-2}, []int{1, 2}),
		sampleOf([]int{math.MinInt}, []int{1, 2}), sampleOf([]int{math.MaxInt}, []int{1, 2}),
		sampleOf([]int{1, 0}, []int{1, 2}, []int{1, 2}), repeated(17, 1, 1, 2), repeated(18, -1, 0, 0),
		repeated(1000, 1, 1, 2),
	}
	for _, x := range notPoints() {
		list = append(list, sampleOf([]int{1}, x), sampleOf([]int{1, 1, -1}, []int{1, 2}, []int{3, 4}, x))
	}
	return list
}
