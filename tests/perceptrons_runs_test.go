package tests

import (
	"math"
	"slices"
	"testing"

	"loop.example/g01135/impl"
)

func TestRunPerceptron(t *testing.T) {
	for _, c := range []struct {
		text     string
		rounds   int
		want     impl.Plane
		mistakes []int
		trace    []int
		counts   []int
		pocket   impl.Plane
	}{
		{"+1,1 +2,2 --1,0", 5, planeOf(1, 1, 0), []int{1, 0}, []int{2}, []int{0, 0, 1}, planeOf(1, 1, 0)},
		{"+1,1 +2,2 --1,0", 1, planeOf(1, 1, 0), []int{1}, []int{2}, []int{0, 0, 1}, planeOf(1, 1, 0)},
		{"+3", 1, planeOf(0, 0), []int{0}, nil, []int{0}, planeOf(0, 0)},
		{"+3", 12, planeOf(0, 0), []int{0}, nil, []int{0}, planeOf(0, 0)},
		{"-3", 1, planeOf(1, -3), []int{1}, []int{0}, []int{1}, planeOf(1, -3)},
		{"-3", 12, planeOf(1, -3), []int{1, 0}, []int{0}, []int{1}, planeOf(1, -3)},
		{"-0,0,0", 3, planeOf(1, 0, 0, 0), []int{1, 0}, []int{0}, []int{1}, planeOf(1, 0, 0, 0)},
		{"-2,1 -2,1", 4, planeOf(1, -2, -1), []int{1, 0}, []int{0}, []int{1, 0}, planeOf(1, -2, -1)},
		{"+1 -1", 1, planeOf(1, -1), []int{1}, []int{1}, []int{0, 1}, planeOf(0, 0)},
		{"+1 -1", 2, planeOf(1, -1), []int{1, 2}, []int{1, 0, 1}, []int{1, 2}, planeOf(0, 0)},
		{
			"+1 -1", 12, planeOf(1, -1), []int{1, 2, 2, 2, 2, 2, 2, 2, 2, 2, 2, 2},
			[]int{1, 0, 1, 0, 1, 0, 1, 0, 1, 0, 1, 0, 1, 0, 1, 0, 1, 0, 1, 0, 1, 0, 1}, []int{11, 12}, planeOf(0, 0),
		},
		{"-1 +1", 3, planeOf(0, 0), []int{2, 2, 2}, []int{0, 1, 0, 1, 0, 1}, []int{3, 3}, planeOf(0, 0)},
		{"-2 -1 +3", 2, planeOf(0, 2), []int{2, 2}, []int{0, 2, 0, 2}, []int{2, 0, 2}, planeOf(1, -2)},
		{"-2 -1 +3", 3, planeOf(0, 3), []int{2, 2, 2}, []int{0, 2, 0, 2, 0, 2}, []int{3, 0, 3}, planeOf(1, -2)},
	} {
		s := sampleOfText(t, c.text)
		p, mistakes, one := impl.RunPerceptron(s, c.rounds)
		trace, two := impl.PerceptronTrace(s, c.rounds)
		counts, three := impl.DualCounts(s, c.rounds)
		pocket, four := impl.PocketPlane(s, c.rounds)
		if !one || !sameText(p, c.want) || !slices.Equal(mistakes, c.mistakes) {
			t.Errorf("%s, %d rounds: %v, %v, %v", c.text, c.rounds, p, mistakes, one)
		}
		if !two || !slices.Equal(trace, c.trace) || !three || !slices.Equal(counts, c.counts) || !four || !sameText(pocket, c.pocket) {
			t.Errorf("%s, %d rounds: %v, %v; %v, %v; %v, %v", c.text, c.rounds, trace, two, counts, three, pocket, four)
		}
	}
}

// pocketBy is the Plane with the fewest mistakes, the first one of several.
func pocketBy(s impl.Sample, planes []impl.Plane) impl.Plane {
	return slices.MinFunc(planes, func(p, q impl.Plane) int { return len(mistakesBy(s, p)) - len(mistakesBy(s, q)) })
}

// checkRun holds all that the program tells of a run against what the run does.
func checkRun(t *testing.T, s impl.Sample, rounds int) ran {
	t.Helper()
	run := runBy(s, rounds)
	p, mistakes, one := impl.RunPerceptron(s, rounds)
	trace, two := impl.PerceptronTrace(s, rounds)
	counts, three := impl.DualCounts(s, rounds)
	pocket, four := impl.PocketPlane(s, rounds)
	if one != run.ok || two != run.ok || three != run.ok || four != run.ok {
		t.Fatalf("%v, %d rounds: %v, %v, %v, %v, not %v", s, rounds, one, two, three, four, run.ok)
	}
	if !run.ok {
		if !areZero(resultsOf(p, mistakes, trace, counts, pocket, false)) {
			t.Fatalf("%v, %d rounds: %v, %v; %v; %v; %v", s, rounds, p, mistakes, trace, counts, pocket)
		}
		return run
	}
	if !sameText(p, run.last()) || !slices.Equal(mistakes, run.mistakes) || !slices.Equal(trace, run.trace) {
		t.Fatalf("%v, %d rounds: %v, %v; %v", s, rounds, p, mistakes, trace)
	}
	want := make([]int, len(s.Points))
	for _, place := range run.trace {
		want[place]++
	}
	if !slices.Equal(counts, want) || !sameText(pocket, pocketBy(s, run.planes)) {
		t.Fatalf("%v, %d rounds: %v; %v", s, rounds, counts, pocket)
	}
	return run
}

// Runs of all kinds of Samples, with each number of rounds, are those of the document.
func TestRunsAreThoseOfTheDocument(t *testing.T) {
	ended, went := 0, 0
	eachSample(t, 32, func(s impl.Sample) {
		for rounds := -1; rounds <= 14; rounds++ {
			run := checkRun(t, s, rounds)
			switch {
			case run.ok && run.mistakes[len(run.mistakes)-1] == 0:
				ended++
			case run.ok:
				went++
			}
		}
	})
	if ended < 1000 || went < 1000 {
		t.Errorf("%d runs ended with a round without a mistake, %d without one", ended, went)
	}
}

// A run needs points, and 1 up to 12 rounds.
func TestRunsThatAreNone(t *testing.T) {
	for _, s := range []impl.Sample{{}, {Points: [][]int{}, Labels: []int{}}} {
		for rounds := -1; rounds <= 14; rounds++ {
			checkRun(t, s, rounds)
		}
	}
	for _, text := range []string{"+1", "-1,2", "+1 -1", "-0,0 +0,1 +1,0 -1,1"} {
		s := sampleOfText(t, text)
		for _, rounds := range []int{0, 13, 14, 100, -1, -12, math.MinInt, math.MaxInt} {
			if run := checkRun(t, s, rounds); run.ok {
				t.Errorf("%d rounds", rounds)
			}
		}
		for _, rounds := range []int{1, 2, 11, 12} {
			if run := checkRun(t, s, rounds); !run.ok {
				t.Errorf("%d rounds", rounds)
			}
		}
	}
	for _, s := range notSamples() {
		p, mistakes, one := impl.RunPerceptron(s, 3)
		trace, two := impl.PerceptronTrace(s, 3)
		counts, three := impl.DualCounts(s, 3)
		pocket, four := impl.PocketPlane(s, 3)
		if one || two || three || four || !areZero(resultsOf(p, mistakes, trace, counts, pocket, false)) {
			t.Errorf("%.100v: %v, %v, %v, %v", s, p, trace, counts, pocket)
		}
	}
}

// A run fails from the round on in which a step leads to no Plane, even if a later step of the
// same round would lead back to one.
func TestRunsThatLeadToNoPlane(t *testing.T) {
	for _, e := range escapes() {
		s := sampleOfText(t, e.text)
		for rounds := 1; rounds <= 12; rounds++ {
			if run := checkRun(t, s, rounds); run.ok != (rounds < e.round) {
				t.Errorf("%s, %d rounds: %v", e.why, rounds, run.ok)
			}
		}
	}
}

// Promise 3: the Plane at the end of a run is PlaneOfCounts of DualCounts.
func TestRunsEndWithThePlaneOfTheirCounts(t *testing.T) {
	eachSample(t, 33, func(s impl.Sample) {
		for rounds := 1; rounds <= 12; rounds++ {
			p, mistakes, ok := impl.RunPerceptron(s, rounds)
			if !ok {
				continue
			}
			counts, one := impl.DualCounts(s, rounds)
			made, two := impl.PlaneOfCounts(s, counts)
			if !one || !two || !sameText(made, p) {
				t.Fatalf("%v, %d rounds: %v, but of %v: %v", s, rounds, p, counts, made)
			}
			trace, ok := impl.PerceptronTrace(s, rounds)
			if !ok || len(trace) != sumOf(counts) || len(trace) != sumOf(mistakes) {
				t.Fatalf("%v, %d rounds: %v, %v, %v", s, rounds, trace, counts, mistakes)
			}
		}
	})
}

func sumOf(list []int) int {
	sum := 0
	for _, n := range list {
		sum += n
	}
	return sum
}

// Promise 3: a run whose last round has no mistake ends with a Plane that fits, which is then
// the PocketPlane too or has no fewer mistakes.
func TestRunsWithoutMistakeFit(t *testing.T) {
	eachSample(t, 34, func(s impl.Sample) {
		for _, rounds := range []int{1, 2, 5, 12} {
			p, mistakes, ok := impl.RunPerceptron(s, rounds)
			if !ok {
				continue
			}
			fits, one := impl.FitsSample(s, p)
			pocket, two := impl.PocketPlane(s, rounds)
			if !one || !two || mistakes[len(mistakes)-1] == 0 && !fits {
				t.Fatalf("%v, %d rounds: %v, %v", s, rounds, p, mistakes)
			}
			if fits, _ := impl.FitsSample(s, pocket); mistakes[len(mistakes)-1] == 0 && !fits {
				t.Fatalf("%v, %d rounds: the pocket %v", s, rounds, pocket)
			}
			if len(mistakesBy(s, pocket)) > len(mistakesBy(s, p)) {
				t.Fatalf("%v, %d rounds: %v has fewer mistakes than %v", s, rounds, p, pocket)
			}
			for i, n := range mistakes {
				if len(mistakes) > rounds || n < 0 || n > len(s.Points) || n == 0 && i < len(mistakes)-1 {
					t.Fatalf("%v, %d rounds: %v", s, rounds, mistakes)
				}
			}
		}
	})
}
