package tests

import (
	"math"
	"math/rand"
	"slices"
	"testing"

	"loop.example/g01135/impl"
)

func TestJoinSamples(t *testing.T) {
	one := sampleOf([]int{1, -1}, []int{1, 2}, []int{3, 4})
	two := sampleOf([]int{-1}, []int{1, 2})
	none := impl.Sample{}
	for _, c := range []struct{ a, b, want impl.Sample }{
		{one, two, sampleOf([]int{1, -1, -1}, []int{1, 2}, []int{3, 4}, []int{1, 2})},
		{two, one, sampleOf([]int{-1, 1, -1}, []int{1, 2}, []int{1, 2}, []int{3, 4})},
		{one, one, sampleOf([]int{1, -1, 1, -1}, []int{1, 2}, []int{3, 4}, []int{1, 2}, []int{3, 4})},
		{one, none, one}, {none, one, one}, {none, none, none},
		{repeated(7, 1, 5), repeated(8, 1, 5), repeated(15, 1, 5)},
		{repeated(8, 1, 5), repeated(8, 1, 5), repeated(16, 1, 5)},
		{repeated(16, 1, 5, 6, 7, 8), none, repeated(16, 1, 5, 6, 7, 8)},
		{none, repeated(16, 1, 5, 6, 7, 8), repeated(16, 1, 5, 6, 7, 8)},
	} {
		if both, ok := impl.JoinSamples(c.a, c.b); !ok || !sameText(both, c.want) {
			t.Errorf("JoinSamples(%v, %v) = %v, %v", c.a, c.b, both, ok)
		}
	}
}

func TestJoinSamplesFails(t *testing.T) {
	short := impl.Sample{Points: [][]int{{1}, {2}}, Labels: []int{1}}
	long := impl.Sample{Points: [][]int{{3}}, Labels: []int{1, -1}}
	for _, c := range []struct{ a, b impl.Sample }{
		{repeated(1, 1, 1), repeated(1, 1, 1, 2)}, {repeated(1, 1, 1, 2), repeated(1, 1, 1)},
		{repeated(2, 1, 1, 2, 3), repeated(3, 1, 1, 2, 3, 4)}, {repeated(8, 1, 5), repeated(9, 1, 5)},
		{repeated(16, 1, 5), repeated(1, 1, 5)}, {repeated(1, 1, 5), repeated(16, 1, 5)},
		{repeated(16, 1, 5), repeated(16, 1, 5)}, {short, long}, {long, short},
		{repeated(17, 1, 5), impl.Sample{}}, {impl.Sample{}, repeated(17, 1, 5)},
	} {
		if both, ok := impl.JoinSamples(c.a, c.b); ok || !sameText(both, impl.Sample{}) {
			t.Errorf("JoinSamples(%v, %v) = %v, %v", c.a, c.b, both, ok)
		}
	}
}

// Promise 2: a Plane fits a Sample that was joined exactly if it fits both.
func TestPlanesFitJoinedSamples(t *testing.T) {
	r := rand.New(rand.NewSource(6))
	joins := [2]int{}
	for range 4000 {
		d := 1 + r.Intn(4)
		p := randomPlane(r, d, 9)
		a, b := randomSample(r, r.Intn(17), d, 9), randomSample(r, r.Intn(17), d, 9)
		if r.Intn(3) > 0 {
			a = labelledBy(a, p)
		}
		if r.Intn(3) > 0 {
			b = labelledBy(b, p)
		}
		both, ok := impl.JoinSamples(a, b)
		if ok != (len(a.Points)+len(b.Points) <= 16) {
			t.Fatalf("JoinSamples(%v, %v) = %v, %v", a, b, both, ok)
		}
		if !ok {
			continue
		}
		one, _ := impl.FitsSample(a, p)
		two, _ := impl.FitsSample(b, p)
		if fits, ok := impl.FitsSample(both, p); !ok || fits != (one && two) {
			t.Fatalf("%v fits %v: %v, %v: %v, and both: %v, %v", p, a, one, b, two, fits, ok)
		}
		if one && two {
			joins[0]++
		} else {
			joins[1]++
		}
	}
	if joins[0] < 300 || joins[1] < 300 {
		t.Error("too few of one kind", joins)
	}
}

func TestPartSample(t *testing.T) {
	s := sampleOf([]int{1, -1, -1, 1}, []int{1, 2}, []int{3, 4}, []int{1, 2}, []int{5, 6})
	for _, c := range []struct {
		places []int
		want   impl.Sample
	}{
		{nil, impl.Sample{}}, {[]int{}, impl.Sample{}}, {[]int{0, 1, 2, 3}, s},
		{[]int{0}, sampleOf([]int{1}, []int{1, 2})}, {[]int{3}, sampleOf([]int{1}, []int{5, 6})},
		{[]int{1, 2}, sampleOf([]int{-1, -1}, []int{3, 4}, []int{1, 2})},
		{[]int{0, 2, 3}, sampleOf([]int{1, -1, 1}, []int{1, 2}, []int{1, 2}, []int{5, 6})},
	} {
		if part, ok := impl.PartSample(s, c.places); !ok || !sameText(part, c.want) {
			t.Errorf("the part at %v: %v, %v", c.places, part, ok)
		}
	}
	for _, places := range [][]int{
		{4}, {-1}, {0, 4}, {-1, 0}, {0, 0}, {1, 1}, {1, 0}, {0, 2, 1}, {0, 1, 2, 3, 3}, {0, 1, 2, 3, 4},
		{3, 2, 1, 0}, {math.MinInt}, {math.MaxInt}, {0, math.MaxInt}, make([]int, 100000),
	} {
		if part, ok := impl.PartSample(s, places); ok || !sameText(part, impl.Sample{}) {
			t.Errorf("the part at %.30v: %v, %v", places[:min(5, len(places))], part, ok)
		}
	}
	if part, ok := impl.PartSample(impl.Sample{}, nil); !ok || !sameText(part, impl.Sample{}) {
		t.Error("no part of no points", part, ok)
	}
	if _, ok := impl.PartSample(impl.Sample{}, []int{0}); ok {
		t.Error("a part of no points")
	}
}

// Each part of a Sample of MaxPoints points has those of its places, and a Plane has just the
// mistakes there.
func TestAllPartsOfASample(t *testing.T) {
	r := rand.New(rand.NewSource(7))
	s := randomSample(r, 16, 3, 9)
	p := planeOf(1, 2, -1, 1)
	for set := range 1 << 16 {
		places, want := []int{}, impl.Sample{}
		for i := range 16 {
			if set>>i&1 == 1 {
				places = append(places, i)
				want.Points = append(want.Points, s.Points[i])
				want.Labels = append(want.Labels, s.Labels[i])
			}
		}
		part, ok := impl.PartSample(s, places)
		if !ok || !slices.Equal(part.Labels, want.Labels) || !slices.EqualFunc(part.Points, want.Points, slices.Equal) {
			t.Fatalf("the part at %v: %v, %v", places, part, ok)
		}
		if fits, ok := impl.FitsSample(part, p); !ok || fits != (len(mistakesBy(want, p)) == 0) {
			t.Fatalf("the part at %v: %v, %v", places, fits, ok)
		}
	}
}

func TestPointsWith(t *testing.T) {
	s := sampleOf([]int{1, -1, -1, 1}, []int{1}, []int{1}, []int{2}, []int{3})
	for _, c := range []struct {
		s     impl.Sample
		label int
		want  []int
		ok    bool
	}{
		{s, 1, []int{0, 3}, true}, {s, -1, []int{1, 2}, true}, {s, 0, nil, false}, {s, 2, nil, false},
		{s, -2, nil, false}, {s, math.MinInt, nil, false}, {impl.Sample{}, 1, nil, true},
		{impl.Sample{}, -1, nil, true}, {impl.Sample{}, 0, nil, false}, {repeated(3, 1, 4), -1, nil, true},
		{repeated(3, -1, 4), -1, []int{0, 1, 2}, true},
		{repeated(16, 1, 4), 1, []int{0, 1, 2, 3, 4, 5, 6, 7, 8, 9, 10, 11, 12, 13, 14, 15}, true},
	} {
		if list, ok := impl.PointsWith(c.s, c.label); ok != c.ok || !slices.Equal(list, c.want) {
			t.Errorf("PointsWith(%v, %d) = %v, %v", c.s, c.label, list, ok)
		}
	}
}

func TestFirstConflict(t *testing.T) {
	a, b, c := []int{1, 2}, []int{2, 1}, []int{1, -2}
	for _, k := range []struct {
		s         impl.Sample
		one, two  int
		conflicts bool
	}{
		{impl.Sample{}, 0, 0, false},
		{sampleOf([]int{1}, a), 0, 0, false},
		{sampleOf([]int{1, 1}, a, a), 0, 0, false},
		{sampleOf([]int{1, -1}, a, b), 0, 0, false},
		{sampleOf([]int{1, -1, -1}, a, b, c), 0, 0, false},
		{sampleOf([]int{1, -1}, a, a), 0, 1, true},
		{sampleOf([]int{-1, 1}, a, a), 0, 1, true},
		{sampleOf([]int{1, 1, -1}, a, a, a), 0, 2, true},
		{sampleOf([]int{1, -1, -1}, a, a, a), 0, 1, true},
		{sampleOf([]int{1, -1, 1, -1}, a, b, b, a), 0, 3, true},
		{sampleOf([]int{1, -1, 1, -1}, b, a, a, c), 1, 2, true},
		{sampleOf([]int{1, 1, -1, -1}, a, b, b, a), 0, 3, true},
		{sampleOf([]int{1, 1, -1, -1, 1}, a, b, b, a, b), 0, 3, true},
		{sampleOf([]int{1, 1, 1, -1, 1}, a, b, b, c, c), 3, 4, true},
		{sampleOf([]int{1, -1}, []int{0}, []int{0}), 0, 1, true},
		{sampleOf([]int{1, -1, -1}, []int{0}, []int{9}, []int{-9}), 0, 0, false},
		{sampleOf([]int{1, -1}, []int{0, 0, 0, 1}, []int{0, 0, 0, 2}), 0, 0, false},
		{sampleOf([]int{1, -1}, []int{1, 0, 0, 0}, []int{2, 0, 0, 0}), 0, 0, false},
		{sampleOf([]int{1, -1, -1}, []int{9, 9, 9, 9}, []int{9, 9, 9, -9}, []int{9, 9, 9, 9}), 0, 2, true},
	} {
		if one, two, ok := impl.FirstConflict(k.s); one != k.one || two != k.two || ok != k.conflicts {
			t.Errorf("FirstConflict(%v) = %d, %d, %v", k.s, one, two, ok)
		}
	}
}

// The first conflict is the first one of all pairs of places, and no Plane fits a Sample with one.
func TestFirstConflictOfAllPairs(t *testing.T) {
	r := rand.New(rand.NewSource(8))
	found := 0
	for range 4000 {
		d := 1 + r.Intn(4)
		s := randomSample(r, r.Intn(17), d, 1+r.Intn(2))
		one, two, conflict := 0, 0, false
		for i := range s.Points {
			for j := i + 1; j < len(s.Points) && !conflict; j++ {
				if slices.Equal(s.Points[i], s.Points[j]) && s.Labels[i] != s.Labels[j] {
					one, two, conflict = i, j, true
				}
			}
		}
		if x, y, ok := impl.FirstConflict(s); x != one || y != two || ok != conflict {
			t.Fatalf("FirstConflict(%v) = %d, %d, %v", s, x, y, ok)
		}
		if fits, ok := impl.FitsSample(s, randomPlane(r, d, 99)); !ok || conflict && fits {
			t.Fatalf("a Plane fits %v: %v, %v", s, fits, ok)
		}
		if conflict {
			found++
		}
	}
	if found < 500 || found > 3500 {
		t.Error("Samples with conflicts:", found)
	}
}

func TestSquareDistance(t *testing.T) {
	for _, c := range []struct {
		x, y []int
		want int
	}{
		{[]int{1, 2}, []int{3, 0}, 8}, {[]int{5}, []int{5}, 0}, {[]int{-9}, []int{9}, 324},
		{[]int{9, 9, 9, 9}, []int{-9, -9, -9, -9}, 1296}, {[]int{0, 0, 0, 1}, []int{0, 0, 0, -1}, 4},
		{[]int{1, 0, 0}, []int{-2, 0, 0}, 9}, {[]int{1, 2, 3, 4}, []int{4, 3, 2, 1}, 20},
	} {
		n, ok := impl.SquareDistance(c.x, c.y)
		back, fine := impl.SquareDistance(c.y, c.x)
		if !ok || !fine || n != c.want || back != c.want {
			t.Errorf("SquareDistance(%v, %v) = %d, %v, and %d, %v", c.x, c.y, n, ok, back, fine)
		}
	}
	for d := range 6 {
		for e := range 6 {
			if _, ok := impl.SquareDistance(make([]int, d), make([]int, e)); ok != (d == e && d >= 1 && d <= 4) {
				t.Errorf("points of %d and %d numbers: %v", d, e, ok)
			}
		}
	}
}
