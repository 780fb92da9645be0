package tests

import (
	"math"
	"math/rand"
	"slices"
	"testing"

	"loop.example/g01135/impl"
)

func TestKernelOf(t *testing.T) {
	for _, c := range []struct {
		x, y []int
		want [3]int // for each degree
	}{
		{[]int{1, 2}, []int{3, 0}, [3]int{4, 16, 64}},
		{[]int{0}, []int{0}, [3]int{1, 1, 1}},
		{[]int{0}, []int{9}, [3]int{1, 1, 1}},
		{[]int{1}, []int{-1}, [3]int{0, 0, 0}},
		{[]int{1}, []int{-2}, [3]int{-1, 1, -1}},
		{[]int{3}, []int{-2}, [3]int{-5, 25, -125}},
		{[]int{1, -1}, []int{1, 1}, [3]int{1, 1, 1}},
		{[]int{2, 1, 0}, []int{1, -1, 7}, [3]int{2, 4, 8}},
		{[]int{9}, []int{9}, [3]int{82, 6724, 551368}},
		{[]int{9, 9, 9, 9}, []int{9, 9, 9, 9}, [3]int{325, 105625, 34328125}},
		{[]int{9, -9, 9, -9}, []int{-9, 9, -9, 9}, [3]int{-323, 104329, -33698267}},
	} {
		for i, want := range c.want {
			kernel, one := impl.KernelOf(c.x, c.y, i+1)
			other, two := impl.KernelOf(c.y, c.x, i+1)
			if !one || !two || kernel != want || other != want {
				t.Errorf("%v, %v, %d: %d, %v; %d, %v", c.x, c.y, i+1, kernel, one, other, two)
			}
		}
	}
}

// Points with other numbers of numbers have no kernel, and there are no other degrees.
func TestNoKernels(t *testing.T) {
	check := func(x, y []int, e int) {
		t.Helper()
		for range 2 {
			if kernel, ok := impl.KernelOf(x, y, e); ok || kernel != 0 {
				t.Errorf("%.100v, %.100v, %d: %d, %v", x, y, e, kernel, ok)
			}
			x, y = y, x
		}
	}
	for d := 0; d <= 5; d++ {
		for e := 0; e <= 5; e++ {
			if d != e || d == 0 || d == 5 {
				check(make([]int, d), make([]int, e), 1)
			}
		}
	}
	for _, x := range notPoints() {
		check(x, make([]int, len(x)), 2)
		check(x, []int{1, 2}, 3)
	}
	for _, e := range []int{0, 4, 5, -1, -2, 100, math.MinInt, math.MaxInt} {
		check([]int{1, 2}, []int{3, 0}, e)
	}
}

func TestForceOf(t *testing.T) {
	for _, c := range []struct {
		text   string
		counts []int
		x      []int
		want   [3]int // for each degree
	}{
		{"+1,2 -3,0 +-1,1", []int{1, 1, 0}, []int{0, 0}, [3]int{0, 0, 0}},
		{"+1,2 -3,0 +-1,1", []int{1, 1, 0}, []int{1, 1}, [3]int{0, 0, 0}},
		{"+1,2 -3,0 +-1,1", []int{1, 1, 0}, []int{1, 2}, [3]int{2, 20, 152}},
		{"+1,2 -3,0 +-1,1", []int{2, 1, 3}, []int{1, 0}, [3]int{0, -8, -48}},
		{"+1,2 -3,0 +-1,1", []int{0, 0, 0}, []int{9, 9}, [3]int{0, 0, 0}},
		{"-5", []int{3}, []int{1}, [3]int{-18, -108, -648}},
		{"-5", []int{3}, []int{-1}, [3]int{12, -48, 192}},
		{"+5 -5", []int{7, 7}, []int{2}, [3]int{0, 0, 0}},
		{"+5 -5", []int{7, 8}, []int{0}, [3]int{-1, -1, -1}},
		{"+9,9,9,9", []int{999}, []int{9, 9, 9, 9}, [3]int{999 * 325, 999 * 105625, 999 * 34328125}},
		{"none", nil, []int{1}, [3]int{}}, {"none", []int{}, []int{1, 2, 3, 4}, [3]int{}}, {"none", nil, []int{-9, 9}, [3]int{}},
	} {
		s := sampleOfText(t, c.text)
		for i, want := range c.want {
			if force, ok := impl.ForceOf(s, c.counts, i+1, c.x); !ok || force != want {
				t.Errorf("%s, %v, %d, %v: %d, %v", c.text, c.counts, i+1, c.x, force, ok)
			}
		}
	}
}

func TestKernelMistakes(t *testing.T) {
	for _, c := range []struct {
		text   string
		counts []int
		want   [3][]int // for each degree
	}{
		{"+1,2 -3,0 +-1,1", []int{1, 1, 0}, [3][]int{}},
		{"+1,2 -3,0 +-1,1", []int{0, 0, 0}, [3][]int{{1}, {1}, {1}}}, // the force 0 has the side 1
		{"+1,2 -3,0 +-1,1", []int{0, 1, 0}, [3][]int{{0}, {0, 2}, {0}}},
		{"+1,2 -3,0 +-1,1", []int{999, 0, 999}, [3][]int{{1}, {1}, {1}}},
		{"+5 -5", []int{1, 1}, [3][]int{{1}, {1}, {1}}},
		{"+5 -5", []int{1, 2}, [3][]int{{0}, {0}, {0}}},
		{"-0,0 -1,1 +0,1 +1,0", []int{0, 0, 1, 1}, [3][]int{{0, 1}, {0, 1}, {0, 1}}},
		{"-0,0 -1,1 +0,1 +1,0", []int{6, 3, 4, 4}, [3][]int{{1}, {}, {}}},
		{"-0,0 -1,1 +0,1 +1,0", []int{8, 9, 9, 9}, [3][]int{{0, 1}, {0}, {0}}},
		{"none", nil, [3][]int{}},
	} {
		s := sampleOfText(t, c.text)
		for i, want := range c.want {
			if list, ok := impl.KernelMistakes(s, c.counts, i+1); !ok || !slices.Equal(list, want) {
				t.Errorf("%s, %v, %d: %v, %v", c.text, c.counts, i+1, list, ok)
			}
		}
	}
}

func TestKernelSquare(t *testing.T) {
	for _, c := range []struct {
		text   string
		counts []int
		want   [3]int // for each degree
	}{
		{"+1,2 -3,0 +-1,1", []int{1, 1, 0}, [3]int{8, 104, 1088}}, // 6 + 10 - 4 - 4
		{"+1,2 -3,0 +-1,1", []int{0, 0, 0}, [3]int{0, 0, 0}},
		{"+1,2 -3,0 +-1,1", []int{0, 2, 0}, [3]int{40, 400, 4000}},
		{"-5", []int{3}, [3]int{234, 6084, 158184}},
		{"+5 -5", []int{4, 4}, [3]int{0, 0, 0}}, // they take each other away
		{"+5 -5", []int{4, 5}, [3]int{26, 676, 17576}},
		{"+1 +-1 -0", []int{1, 1, 2}, [3]int{0, 4, 12}},
		{"none", nil, [3]int{}},
	} {
		s := sampleOfText(t, c.text)
		for i, want := range c.want {
			if square, ok := impl.KernelSquare(s, c.counts, i+1); !ok || square != want {
				t.Errorf("%s, %v, %d: %d, %v", c.text, c.counts, i+1, square, ok)
			}
		}
	}
	most := slices.Repeat([]int{999}, 16)
	if square, ok := impl.KernelSquare(repeated(16, -1, 9, 9, 9, 9), most, 3); !ok || square != 16*999*16*999*34328125 {
		t.Error(square, ok)
	}
}

func TestKernelRun(t *testing.T) {
	for _, c := range []struct {
		text   string
		e      int
		passes int
		counts []int
		calm   int
	}{
		{"+1,2 -3,0 +-1,1", 1, 0, []int{0, 0, 0}, 0},
		{"+1,2 -3,0 +-1,1", 1, 1, []int{0, 1, 0}, 0}, // the last point's force is 2 by then
		{"+1,2 -3,0 +-1,1", 1, 2, []int{1, 1, 0}, 0},
		{"+1,2 -3,0 +-1,1", 1, 3, []int{1, 1, 0}, 1},
		{"+1,2 -3,0 +-1,1", 1, 10, []int{1, 1, 0}, 8},
		{"+1,2 -3,0 +-1,1", 2, 1, []int{0, 1, 1}, 0},
		{"+5 +6", 1, 0, []int{0, 0}, 0},
		{"+5 +6", 3, 1, []int{0, 0}, 1},
		{"+5 +6", 2, 10, []int{0, 0}, 10}, // no pass changes a count
		{"-5", 1, 1, []int{1}, 0},
		{"-5", 3, 2, []int{1}, 1},
		{"-5", 2, 10, []int{1}, 9},
		{"+5 -5", 1, 1, []int{0, 1}, 0},
		{"+5 -5", 1, 2, []int{1, 2}, 0},
		{"+5 -5", 3, 10, []int{9, 10}, 0}, // no pass changes none
		{"-5 +5", 2, 10, []int{10, 10}, 0},
		{"-0,0 -1,1 +0,1 +1,0", 1, 10, []int{10, 9, 10, 9}, 0},
		{"-0,0 -1,1 +0,1 +1,0", 2, 10, []int{6, 3, 4, 4}, 4},
		{"none", 1, 0, nil, 0}, {"none", 1, 1, nil, 1}, {"none", 3, 10, nil, 10},
	} {
		counts, calm, ok := impl.KernelRun(sampleOfText(t, c.text), c.e, c.passes)
		if !ok || !slices.Equal(counts, c.counts) || calm != c.calm {
			t.Errorf("%s, %d, %d: %v, %d, %v", c.text, c.e, c.passes, counts, calm, ok)
		}
	}
}

// checkKernels checks all kernel functions of a Sample, counts and a degree.
func checkKernels(t *testing.T, s impl.Sample, counts []int, e int, points [][]int) {
	t.Helper()
	for _, x := range points {
		force, ok := impl.ForceOf(s, counts, e, x)
		if !ok || force != forceBy(s, counts, e, x) {
			t.Fatalf("%v, %v, %d, %v: %d, %v", s, counts, e, x, force, ok)
		}
	}
	list, one := impl.KernelMistakes(s, counts, e)
	square, two := impl.KernelSquare(s, counts, e)
	if !one || !two || !slices.Equal(list, kernelMistakesBy(s, counts, e)) || square != kernelSquareBy(s, counts, e) || square < 0 {
		t.Fatalf("%v, %v, %d: %v, %v; %d, %v", s, counts, e, list, one, square, two)
	}
}

// Forces, mistakes and squares are those that the points have as lists of products, for all small
// Samples with small counts and for drawn ones. Squares of 0 are found, too, with counts that are not
// all 0.
func TestKernelsBySearch(t *testing.T) {
	for e := 1; e <= 3; e++ {
		eachSmallSample(3, func(s impl.Sample) {
			n := len(s.Points)
			for k := range power(3, n) {
				checkKernels(t, s, digits(k, 3, n), e, listsWithin(1, 2))
			}
		})
	}
	r := rand.New(rand.NewSource(560))
	zero := 0
	eachMixed(561, 16, func(s impl.Sample) {
		points := [][]int{{1}, {-9, 9}}
		if len(s.Points) > 0 {
			points = pointsFor(r, s)
		}
		for _, counts := range countsFor(r, len(s.Points)) {
			e := 1 + r.Intn(3)
			checkKernels(t, s, counts, e, points)
			if square, _ := impl.KernelSquare(s, counts, e); square == 0 && sumBy(counts) > 0 {
				zero++
			}
		}
	})
	if zero < 10 {
		t.Error("only", zero)
	}
}

// Kernels are symmetric, and are the products of the points' lists.
func TestKernelsArePowers(t *testing.T) {
	r := rand.New(rand.NewSource(562))
	for range 5000 {
		d, e := 1+r.Intn(4), 1+r.Intn(3)
		x, y := randomList(r, d, 9), randomList(r, d, 9)
		kernel, one := impl.KernelOf(x, y, e)
		other, two := impl.KernelOf(y, x, e)
		force, three := impl.ForceOf(sampleOf([]int{1}, y), []int{1}, e, x)
		if !one || !two || !three || kernel != innerBy(tensorBy(x, e), tensorBy(y, e)) || other != kernel || force != kernel {
			t.Fatalf("%v, %v, %d: %d, %d, %d", x, y, e, kernel, other, force)
		}
	}
}

// checkKernelRuns checks the kernel runs of a Sample with all numbers of passes, and promise 10: one
// whose last pass has changed nothing makes no mistakes. It returns whether there is one.
func checkKernelRuns(t *testing.T, s impl.Sample, e int) bool {
	t.Helper()
	behind := kernelRunBy(s, e, 10)
	calmly := false
	for passes := range behind {
		counts, calm, one := impl.KernelRun(s, e, passes)
		if !one || !slices.Equal(counts, behind[passes]) || calm != calmBy(behind[:passes+1]) {
			t.Fatalf("%v, %d, %d: %v, %d, %v", s, e, passes, counts, calm, one)
		}
		mistakes, two := impl.KernelMistakes(s, counts, e)
		if !two || (calm > 0 || calmly) && len(mistakes) > 0 || calm == 0 && calmly {
			t.Fatalf("%v, %d, %d: %v, %d, but the mistakes %v", s, e, passes, counts, calm, mistakes)
		}
		calmly = calm > 0
	}
	return calmly
}

// Promise 10, for all small Samples and drawn ones, with each degree.
func TestKernelRunsBySearch(t *testing.T) {
	calm := map[int]int{}
	others := map[int]int{}
	for e := 1; e <= 3; e++ {
		check := func(s impl.Sample) {
			if checkKernelRuns(t, s, e) {
				calm[e]++
			} else {
				others[e]++
			}
		}
		eachSmallest(4, check)
		eachMixed(563+int64(e), 16, check)
	}
	for e := 1; e <= 3; e++ {
		if calm[e] < 100 || others[e] < 100 {
			t.Error(calm, others)
		}
	}
}

// The points of a Sample that is not clean are never all right: some pass goes on for ever.
func TestKernelRunsOfConflicts(t *testing.T) {
	for e := 1; e <= 3; e++ {
		eachMixed(567, 16, func(s impl.Sample) {
			if isCleanBy(s) {
				return
			}
			if _, calm, ok := impl.KernelRun(s, e, 10); !ok || calm != 0 {
				t.Fatalf("%v, %d: %d, %v", s, e, calm, ok)
			}
		})
	}
}

// Counts must be as many as the points, and in their limits; so must degrees and passes.
func TestNoForces(t *testing.T) {
	check := func(s impl.Sample, counts []int, e int, x []int) {
		t.Helper()
		force, one := impl.ForceOf(s, counts, e, x)
		list, two := impl.KernelMistakes(s, counts, e)
		square, three := impl.KernelSquare(s, counts, e)
		if one || two || three || force != 0 || len(list) > 0 || square != 0 {
			t.Errorf("%.100v, %.100v, %d: %d, %v; %v, %v; %d, %v", s, counts, e, force, one, list, two, square, three)
		}
	}
	for n := range 17 {
		for _, counts := range notCounts(n) {
			check(repeated(n, 1, 2, 3), counts, 1, []int{1, 2})
		}
		for _, e := range []int{0, 4, -1, math.MinInt, math.MaxInt} {
			check(repeated(n, 1, 2, 3), make([]int, n), e, []int{1, 2})
		}
	}
	for _, s := range notSamples() {
		check(s, make([]int, len(s.Points)), 1, []int{1, 2})
		check(s, nil, 1, []int{1})
	}
}

func TestPointsWithoutForces(t *testing.T) {
	check := func(s impl.Sample, x []int) {
		t.Helper()
		if force, ok := impl.ForceOf(s, make([]int, len(s.Points)), 2, x); ok || force != 0 {
			t.Errorf("%v, %.100v: %d, %v", s, x, force, ok)
		}
	}
	for d := 1; d <= 4; d++ {
		for e := 0; e <= 5; e++ {
			if d != e {
				check(repeated(2, 1, make([]int, d)...), make([]int, e))
			}
		}
	}
	for _, x := range notPoints() {
		check(fourPoints(), x)
		check(impl.Sample{}, x)
	}
}

func TestNoKernelRuns(t *testing.T) {
	check := func(s impl.Sample, e, passes int) {
		t.Helper()
		if counts, calm, ok := impl.KernelRun(s, e, passes); ok || len(counts) > 0 || calm != 0 {
			t.Errorf("%.100v, %d, %d: %v, %d, %v", s, e, passes, counts, calm, ok)
		}
	}
	for _, s := range notSamples() {
		check(s, 1, 1)
		check(s, 3, 0)
	}
	for _, s := range []impl.Sample{fourPoints(), {}} {
		for _, e := range []int{0, 4, -1, math.MinInt, math.MaxInt} {
			check(s, e, 1)
		}
		for _, passes := range []int{-1, 11, 12, 100, math.MinInt, math.MaxInt} {
			check(s, 1, passes)
		}
	}
}
