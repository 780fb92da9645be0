package tests

import (
	"math/rand"
	"slices"
	"testing"

	"loop.example/g01135/impl"
)

// ran is what a run does by the document's definition.
type ran struct {
	planes   []impl.Plane // that at the beginning, and those behind the steps that changed it
	trace    []int
	mistakes []int
	ok       bool
}

// runBy makes a run apart from the program: it takes the Bound as one more Weight, and puts -1
// behind the numbers of each point.
func runBy(s impl.Sample, rounds int) ran {
	if len(s.Points) == 0 || rounds < 1 || rounds > 12 {
		return ran{}
	}
	lifted := make([]int, len(s.Points[0])+1)
	run := ran{planes: []impl.Plane{loweredPlane(lifted)}, ok: true}
	for range rounds {
		wrong := 0
		for place, x := range s.Points {
			if !turnTo(lifted, x, s.Labels[place]) {
				continue
			}
			if slices.Max(lifted) > 99 || slices.Min(lifted) < -99 {
				return ran{}
			}
			wrong++
			run.trace = append(run.trace, place)
			run.planes = append(run.planes, loweredPlane(lifted))
		}
		run.mistakes = append(run.mistakes, wrong)
		if wrong == 0 {
			break
		}
	}
	return run
}

// turnTo makes a step of the Weights and the Bound behind them, and tells whether they changed.
func turnTo(lifted, x []int, label int) bool {
	point := append(slices.Clone(x), -1)
	sum := 0
	for i, n := range point {
		sum += n * lifted[i]
	}
	if sum >= 0 && label == 1 || sum < 0 && label == -1 {
		return false
	}
	for i, n := range point {
		lifted[i] += label * n
	}
	return true
}

func loweredPlane(lifted []int) impl.Plane {
	d := len(lifted) - 1
	return planeOf(lifted[d], slices.Clone(lifted[:d])...)
}

func (run ran) last() impl.Plane { return run.planes[len(run.planes)-1] }

// sampleOfText returns the Sample with a text.
func sampleOfText(t *testing.T, text string) impl.Sample {
	t.Helper()
	s, ok := impl.ParseSample(text)
	if !ok {
		t.Fatalf("no Sample: %s", text)
	}
	return s
}

// escape is the text of a Sample of which a run leads to no Plane in a round.
type escape struct {
	text  string
	round int
	why   string
}

func escapes() []escape {
	return []escape{
		{
			"-5,2,4,-7 -9,8,-6,1 +-9,3,5,-4 +9,9,-5,7 +4,5,-3,-2 --9,-9,7,9 --9,-2,-8,-8 +-7,1,6,-9 " +
				"+9,6,-6,-6 +-8,-6,8,7 +-4,7,-6,-3 +-7,-5,-2,8 -9,0,7,9 +9,9,-1,-9 -2,2,-6,9 --3,-2,-6,-3",
			12, "a Weight is too great for a while, but not behind the round",
		},
		{
			"--4,4,7 +-9,-8,3 +6,9,9 +-5,6,9 +-8,-8,-8 +-5,-1,7 +9,9,8 +-6,9,-7 " +
				"+-8,-8,-6 +-5,4,-8 +9,-9,9 +-9,8,9 +1,-8,-4 +7,-9,-7 --5,6,-8 +9,7,-9",
			12, "the Bound is too low for a while, but not behind the round",
		},
		{
			"--1,-5,9,6 +1,4,1,-8 +0,9,-5,-4 --1,-1,-7,-2 -9,4,-8,-7 -7,6,9,-7 --8,-5,-8,3 --9,-9,7,-9 " +
				"--7,4,-7,8 -2,3,3,3 +7,3,-6,-5 --3,6,9,-6 -4,0,-9,8 --1,9,-9,-6 -8,-8,5,9 -7,9,-9,-8",
			12, "the Bound is too great for a while, but not behind the round",
		},
		{
			"+7,8,9 +-6,7,-9 +-3,-6,4 --9,5,-9 +-6,4,4 +-6,9,-8 +9,-5,-4 +-9,-8,-9 " +
				"+8,8,9 +-7,-9,-8 +9,-8,9 +-9,9,9 +0,5,-4 +8,-9,-9 +-7,1,-8 --3,5,7",
			11, "the Bound is too low",
		},
		{
			"--2,-4,9,7 +-2,7,-4,-7 -7,-7,-1,-3 --2,0,-7,-4 -8,5,-9,-7 --8,-7,9,-9 -6,8,9,-7 --8,-9,-9,7 " +
				"--9,5,-6,6 --3,4,9,-8 +7,2,-6,-4 -0,6,-9,-9 -3,0,-9,9 -9,-8,5,6 -9,8,-9,-6 --4,0,2,3",
			10, "the Bound is too great",
		},
	}
}

// eachSample calls a function with many Samples with points: all small ones of one number,
// random ones with any labels, with those of a Plane and with a point twice, and those of which
// a run leads to no Plane.
func eachSample(t *testing.T, seed int64, call func(s impl.Sample)) {
	t.Helper()
	eachSmallSample(4, call)
	r := rand.New(rand.NewSource(seed))
	for d := 1; d <= 4; d++ {
		for n := 1; n <= 16; n++ {
			for _, limit := range []int{1, 3, 9} {
				s := randomSample(r, n, d, limit)
				call(s)
				call(labelledBy(s, randomPlane(r, d, 9)))
				s.Points[n-1] = slices.Clone(s.Points[0])
				call(s)
			}
		}
	}
	for _, e := range escapes() {
		call(sampleOfText(t, e.text))
	}
}

// eachSmallSample calls a function with all Samples of 1 up to most points of one number in -1..1.
func eachSmallSample(most int, call func(s impl.Sample)) {
	var grow func(s impl.Sample)
	grow = func(s impl.Sample) {
		if len(s.Points) > 0 {
			call(s)
		}
		if len(s.Points) == most {
			return
		}
		for x := -1; x <= 1; x++ {
			for _, label := range []int{1, -1} {
				longer := cloneSample(s)
				longer.Points = append(longer.Points, []int{x})
				longer.Labels = append(longer.Labels, label)
				grow(longer)
			}
		}
	}
	grow(impl.Sample{})
}
