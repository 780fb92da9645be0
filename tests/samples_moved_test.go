package tests

import (
	"math/rand"
	"slices"
	"testing"

	"loop.example/g01135/impl"
)

func TestTurnPlane(t *testing.T) {
	for _, c := range []struct{ p, want impl.Plane }{
		{planeOf(0, -1, 1), planeOf(1, 1, -1)},
		{planeOf(5, 1, 2, 3, 4), planeOf(-4, -1, -2, -3, -4)},
		{planeOf(99, 99), planeOf(-98, -99)},
		{planeOf(-98, -99, 0), planeOf(99, 99, 0)},
		{planeOf(1, 0), planeOf(0, 0)},
	} {
		if p, ok := impl.TurnPlane(c.p); !ok || !sameText(p, c.want) {
			t.Errorf("TurnPlane(%v) = %v, %v", c.p, p, ok)
		}
	}
	for _, p := range []impl.Plane{planeOf(-99, 0), planeOf(-99, 99), planeOf(-99, 1, 2, 3, 4), planeOf(-100, 1)} {
		if turned, ok := impl.TurnPlane(p); ok || !sameText(turned, impl.Plane{}) {
			t.Errorf("TurnPlane(%v) = %v, %v", p, turned, ok)
		}
	}
}

// TurnPlane of TurnPlane is the Plane again, and just the Bound -MaxPlane has no turned one.
func TestTurnPlaneTwice(t *testing.T) {
	for bound := -99; bound <= 99; bound++ {
		for _, w := range []int{-99, -98, -1, 0, 1, 98, 99} {
			p := planeOf(bound, w, 3)
			turned, ok := impl.TurnPlane(p)
			if ok != (bound != -99) {
				t.Errorf("TurnPlane(%v) = %v, %v", p, turned, ok)
			}
			if !ok {
				continue
			}
			if back, ok := impl.TurnPlane(turned); !ok || !sameText(back, p) {
				t.Errorf("%v turned twice is %v, %v", p, back, ok)
			}
		}
	}
}

// Promise 2: the sides of a turned Plane are the other ones, and it fits the turned labels if
// the Plane fits the others.
func TestTurnedPlanesAndLabels(t *testing.T) {
	turns := 0
	eachPair(3, func(s impl.Sample, p impl.Plane) {
		labels, one := impl.TurnLabels(s)
		if !one || !sameText(labels.Points, s.Points) || len(labels.Labels) != len(s.Labels) {
			t.Fatalf("TurnLabels(%v) = %v, %v", s, labels, one)
		}
		for i, label := range labels.Labels {
			if label != -s.Labels[i] {
				t.Fatalf("TurnLabels(%v) = %v", s, labels)
			}
		}
		turned, ok := impl.TurnPlane(p)
		if !ok {
			return
		}
		turns++
		for _, x := range s.Points {
			if side, ok := impl.SideOf(turned, x); !ok || side != -sideBy(p, x) {
				t.Fatalf("%v turned has the side %d, %v, for %v", p, side, ok, x)
			}
		}
		before, _ := impl.MistakesOf(s, p)
		behind, two := impl.MistakesOf(labels, turned)
		if !two || !slices.Equal(before, behind) {
			t.Fatalf("%v and %v: mistakes %v, and turned %v, %v", s, p, before, behind, two)
		}
	})
	if turns < 500 {
		t.Error("only", turns, "Planes were turned")
	}
}

func TestMoveSample(t *testing.T) {
	s := sampleOf([]int{1, -1, 1}, []int{1, 2}, []int{8, 0}, []int{-8, 1})
	for _, c := range []struct{ by, one, two, three []int }{
		{[]int{0, 0}, []int{1, 2}, []int{8, 0}, []int{-8, 1}},
		{[]int{1, 7}, []int{2, 9}, []int{9, 7}, []int{-7, 8}},
		{[]int{-1, -9}, []int{0, -7}, []int{7, -9}, []int{-9, -8}},
	} {
		want := sampleOf([]int{1, -1, 1}, c.one, c.two, c.three)
		if moved, ok := impl.MoveSample(s, c.by); !ok || !sameText(moved, want) {
			t.Errorf("moved by %v: %v, %v", c.by, moved, ok)
		}
	}
	for _, by := range [][]int{
		{2, 0}, {-2, 0}, {0, 8}, {9, 9}, {-9, -9}, nil, {}, {0}, {0, 0, 0}, {0, 0, 0, 0, 0}, {0, 10}, {0, -10},
	} {
		if moved, ok := impl.MoveSample(s, by); ok || !sameText(moved, impl.Sample{}) {
			t.Errorf("moved by %v: %v, %v", by, moved, ok)
		}
	}
}

// A list that moves points has numbers of at most MaxCoordinate, even if the moved points would
// be ones with greater ones.
func TestMovesAtTheirLimits(t *testing.T) {
	for from := -9; from <= 9; from++ {
		for by := -20; by <= 20; by++ {
			s := sampleOf([]int{-1}, []int{from})
			moved, ok := impl.MoveSample(s, []int{by})
			want := by >= -9 && by <= 9 && from+by >= -9 && from+by <= 9
			if ok != want || ok && (moved.Points[0][0] != from+by || moved.Labels[0] != -1) {
				t.Errorf("%d moved by %d: %v, %v", from, by, moved, ok)
			}
		}
	}
	if _, ok := impl.MoveSample(impl.Sample{}, []int{0}); ok {
		t.Error("a Sample without points was moved")
	}
	if _, ok := impl.MoveSample(impl.Sample{}, nil); ok {
		t.Error("a Sample without points was moved by nothing")
	}
}

func TestMovePlane(t *testing.T) {
	for _, c := range []struct {
		p    impl.Plane
		by   []int
		want int
		ok   bool
	}{
		{planeOf(0, -1, 1), []int{1, 2}, 1, true},
		{planeOf(90, 1), []int{9}, 99, true},
		{planeOf(91, 1), []int{9}, 0, false},
		{planeOf(-90, 1), []int{-9}, -99, true},
		{planeOf(-91, 1), []int{-9}, 0, false},
		{planeOf(-99, 22), []int{9}, 99, true},
		{planeOf(-98, 22), []int{9}, 0, false},
		{planeOf(99, 99, 99, 99, 99), []int{-9, 9, 0, -2}, -99, true},
		{planeOf(98, 99, 99, 99, 99), []int{-9, 9, 0, -2}, 0, false},
		{planeOf(99, 99, 99, 99, 99), []int{9, 9, 9, 9}, 0, false},
		{planeOf(99, 0, 0), []int{9, -9}, 99, true},
		{planeOf(0, 0), []int{10}, 0, false},
		{planeOf(0, 0), []int{-10}, 0, false},
		{planeOf(0, 0, 0), []int{0}, 0, false},
		{planeOf(0, 0, 0), []int{0, 0, 0}, 0, false},
		{planeOf(0, 0), nil, 0, false},
	} {
		want := impl.Plane{}
		if c.ok {
			want = planeOf(c.want, c.p.Weights...)
		}
		if moved, ok := impl.MovePlane(c.p, c.by); ok != c.ok || !sameText(moved, want) {
			t.Errorf("MovePlane(%v, %v) = %v, %v", c.p, c.by, moved, ok)
		}
	}
}

// Promise 2: each moved point has, with the moved Plane, the side that the point had.
func TestMovedPointsKeepTheirSides(t *testing.T) {
	r := rand.New(rand.NewSource(4))
	moves := 0
	eachPair(4, func(s impl.Sample, p impl.Plane) {
		by := randomList(r, len(p.Weights), r.Intn(4))
		far, one := impl.MovePlane(p, by)
		moved, two := impl.MoveSample(s, by)
		if !one || !two {
			return
		}
		moves++
		for i, x := range moved.Points {
			before, _ := impl.SideOf(p, s.Points[i])
			if side, ok := impl.SideOf(far, x); !ok || side != before {
				t.Fatalf("%v with %v moved by %v: %d, %v, at place %d", s, p, by, side, ok, i)
			}
		}
		before, _ := impl.MistakesOf(s, p)
		if behind, ok := impl.MistakesOf(moved, far); !ok || !slices.Equal(before, behind) {
			t.Fatalf("%v with %v moved by %v: mistakes %v and %v, %v", s, p, by, before, behind, ok)
		}
	})
	if moves < 150 {
		t.Error("only", moves, "moves were tested")
	}
}

func TestLiftSample(t *testing.T) {
	for _, c := range []struct{ s, want impl.Sample }{
		{sampleOf([]int{1}, []int{5}), sampleOf([]int{1}, []int{5, -1})},
		{sampleOf([]int{1, -1}, []int{5, 6}, []int{5, 6}), sampleOf([]int{1, -1}, []int{5, 6, -1}, []int{5, 6, -1})},
		{repeated(16, -1, 9, -9, 0), repeated(16, -1, 9, -9, 0, -1)},
	} {
		if lifted, ok := impl.LiftSample(c.s); !ok || !sameText(lifted, c.want) {
			t.Errorf("LiftSample(%v) = %v, %v", c.s, lifted, ok)
		}
	}
	for _, s := range []impl.Sample{{}, {Points: [][]int{}, Labels: []int{}}, repeated(1, 1, 1, 2, 3, 4), repeated(16, 1, 0, 0, 0, 0)} {
		if lifted, ok := impl.LiftSample(s); ok || !sameText(lifted, impl.Sample{}) {
			t.Errorf("LiftSample(%v) = %v, %v", s, lifted, ok)
		}
	}
}

func TestLiftPlane(t *testing.T) {
	for _, c := range []struct{ p, want impl.Plane }{
		{planeOf(0, -1, 1), planeOf(0, -1, 1, 0)},
		{planeOf(99, -99), planeOf(0, -99, 99)},
		{planeOf(-99, 1, 2, 3), planeOf(0, 1, 2, 3, -99)},
	} {
		if lifted, ok := impl.LiftPlane(c.p); !ok || !sameText(lifted, c.want) {
			t.Errorf("LiftPlane(%v) = %v, %v", c.p, lifted, ok)
		}
	}
	for _, p := range []impl.Plane{planeOf(0, 1, 2, 3, 4), planeOf(5, 0, 0, 0, 0)} {
		if lifted, ok := impl.LiftPlane(p); ok || !sameText(lifted, impl.Plane{}) {
			t.Errorf("LiftPlane(%v) = %v, %v", p, lifted, ok)
		}
	}
}

// Promise 2: a Plane fits exactly if its LiftPlane fits the LiftSample.
func TestLiftedPlanesFitAsBefore(t *testing.T) {
	lifts, fitted := 0, 0
	eachPair(5, func(s impl.Sample, p impl.Plane) {
		high, one := impl.LiftPlane(p)
		lifted, two := impl.LiftSample(s)
		if one != (len(p.Weights) < 4) || two != (len(p.Weights) < 4 && len(s.Points) > 0) {
			t.Fatalf("%v and %v: lifted %v, %v", s, p, one, two)
		}
		if !two {
			return
		}
		lifts++
		before, _ := impl.MistakesOf(s, p)
		behind, ok := impl.MistakesOf(lifted, high)
		if !ok || !slices.Equal(before, behind) {
			t.Fatalf("%v and %v: mistakes %v, and lifted %v, %v", s, p, before, behind, ok)
		}
		was, _ := impl.FitsSample(s, p)
		if fits, ok := impl.FitsSample(lifted, high); !ok || fits != was {
			t.Fatalf("%v and %v: %v, and lifted %v, %v", s, p, was, fits, ok)
		}
		if was {
			fitted++
		}
	})
	if lifts < 500 || fitted < 100 {
		t.Error("only", lifts, "lifts were tested,", fitted, "of them with Planes that fit")
	}
}
