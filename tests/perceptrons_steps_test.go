package tests

import (
	"math/rand"
	"slices"
	"testing"

	"loop.example/g01135/impl"
)

func TestStepPerceptron(t *testing.T) {
	for _, c := range []struct {
		p       impl.Plane
		x       []int
		label   int
		want    impl.Plane
		changed bool
	}{
		{planeOf(0, 0, 0), []int{-1, 0}, -1, planeOf(1, 1, 0), true},
		{planeOf(0, 0, 0), []int{-1, 0}, 1, planeOf(0, 0, 0), false},
		{planeOf(1, 0, 0), []int{3, -4}, 1, planeOf(0, 3, -4), true},
		{planeOf(1, 0, 0), []int{3, -4}, -1, planeOf(1, 0, 0), false},
		{planeOf(5, 1, 2), []int{1, 2}, 1, planeOf(5, 1, 2), false},
		{planeOf(5, 1, 2), []int{1, 2}, -1, planeOf(6, 0, 0), true},
		{planeOf(6, 1, 2), []int{1, 2}, 1, planeOf(5, 2, 4), true},
		{planeOf(6, 1, 2), []int{1, 2}, -1, planeOf(6, 1, 2), false},
		{planeOf(0, 7), []int{0}, -1, planeOf(1, 7), true},
		{planeOf(1, 7), []int{0}, 1, planeOf(0, 7), true},
		{planeOf(-3, 1, -1, 2, 0), []int{9, 9, -9, 9}, 1, planeOf(-4, 10, 8, -7, 9), true},
		{planeOf(99, 90, -99, 0, 1), []int{9, 9, 9, 9}, 1, planeOf(98, 99, -90, 9, 10), true},
	} {
		next, changed, ok := impl.StepPerceptron(c.p, c.x, c.label)
		if !ok || changed != c.changed || !sameText(next, c.want) {
			t.Errorf("%v at %v, %d: %v, %v, %v", c.p, c.x, c.label, next, changed, ok)
		}
	}
}

// A step fails just if its Plane is none, at each one of its limits.
func TestStepsThatLeadToNoPlane(t *testing.T) {
	for _, c := range []struct {
		p     impl.Plane
		x     []int
		label int
		ok    bool
	}{
		{planeOf(1, 98, -98), []int{1, 1}, 1, true}, {planeOf(1, 99, -99), []int{1, 1}, 1, false},
		{planeOf(1, -99, 99), []int{1, 1}, 1, false}, {planeOf(-1, 99, -99), []int{-1, -1}, -1, false},
		{planeOf(1, 99, 99), []int{-1, -1}, 1, true}, {planeOf(0, 90, -99), []int{-9, -9}, -1, true},
		{planeOf(0, 91, -99), []int{-9, -9}, -1, false}, {planeOf(0, 99, 99), []int{0, 0}, -1, true},
		{planeOf(98, 99), []int{1}, -1, true}, {planeOf(99, 99), []int{1}, -1, false},
		{planeOf(-98, -99), []int{9}, 1, true}, {planeOf(-99, -99), []int{9}, 1, false},
		{planeOf(99, 99), []int{1}, 1, true}, {planeOf(-99, -99), []int{9}, -1, true},
	} {
		next, changed, ok := impl.StepPerceptron(c.p, c.x, c.label)
		if ok != c.ok || ok != impl.IsPlane(next) || !ok && (changed || !sameText(next, impl.Plane{})) {
			t.Errorf("%v at %v, %d: %v, %v, %v", c.p, c.x, c.label, next, changed, ok)
		}
	}
}

// Steps at random points are those of the document, also where they lead to no Plane.
func TestStepsAtRandom(t *testing.T) {
	r := rand.New(rand.NewSource(31))
	count := map[string]int{}
	for range 20000 {
		d := 1 + r.Intn(4)
		p, x, label := randomPlane(r, d, 99), randomList(r, d, 9), 2*r.Intn(2)-1
		lifted := append(slices.Clone(p.Weights), p.Bound)
		want := turnTo(lifted, x, label)
		next, changed, ok := impl.StepPerceptron(p, x, label)
		if slices.Max(lifted) > 99 || slices.Min(lifted) < -99 {
			count["no Plane"]++
			if ok || changed || !sameText(next, impl.Plane{}) {
				t.Fatalf("%v at %v, %d: %v, %v, %v", p, x, label, next, changed, ok)
			}
			continue
		}
		if !ok || changed != want || !sameText(next, loweredPlane(lifted)) {
			t.Fatalf("%v at %v, %d: %v, %v, %v", p, x, label, next, changed, ok)
		}
		if changed {
			count["changed"]++
		} else {
			count["kept"]++
		}
	}
	for _, kind := range []string{"no Plane", "changed", "kept"} {
		if count[kind] < 100 {
			t.Errorf("only %d steps: %s", count[kind], kind)
		}
	}
}

// The limits are those of the document.
func TestLimitsOfPerceptrons(t *testing.T) {
	limits := []int{impl.MaxRounds, impl.MaxFeatures, impl.MaxRows, impl.MaxTimes}
	if !slices.Equal(limits, []int{12, 8, 40, 999}) {
		t.Error(limits)
	}
}
