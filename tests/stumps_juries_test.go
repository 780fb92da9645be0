package tests

import (
	"math/rand"
	"slices"
	"testing"

	"loop.example/g01135/impl"
)

// always returns a Plane with d Weights that gives each point a side.
func always(d, side int) impl.Plane {
	return planeOf((1-side)/2, make([]int, d)...)
}

// splitJury returns a jury of Planes, of which some always give the side 1, and the others -1.
func splitJury(d, ones, others int) []impl.Plane {
	return append(slices.Repeat([]impl.Plane{always(d, 1)}, ones), slices.Repeat([]impl.Plane{always(d, -1)}, others)...)
}

// A jury has the side of most of its Planes, and 1 if both have as many.
func TestSidesOfSplitJuries(t *testing.T) {
	for ones := range 11 {
		for others := range 11 {
			for d := 1; d <= 4; d++ {
				jury := splitJury(d, ones, others)
				x := slices.Repeat([]int{9}, d)
				fine := ones+others >= 1 && ones+others <= 9
				want := map[bool]int{true: 1, false: -1}[ones >= others]
				side, one := impl.JurySide(jury, x)
				mistakes, two := impl.JuryMistakes(sampleOf([]int{1}, x), jury)
				if !fine {
					want = 0
				}
				if one != fine || two != fine || side != want || len(mistakes) != map[int]int{-1: 1}[want] {
					t.Errorf("%d and %d Planes: %d, %v; %v, %v", ones, others, side, one, mistakes, two)
				}
			}
		}
	}
}

func TestJuries(t *testing.T) {
	boosting := stumpList([]int{1, 3}, []int{-1})
	for _, c := range []struct {
		text     string
		jury     []impl.Plane
		sides    []int
		mistakes []int
	}{
		{"+1 -2 +3", boosting, []int{1, -1, 1}, nil},
		{"+1 -2 +3", boosting[:1], []int{1, 1, 1}, []int{1}},
		{"+1 -2 +3", boosting[1:2], []int{-1, -1, 1}, []int{0}},
		{"+1 -2 +3", boosting[:2], []int{1, 1, 1}, []int{1}},
		{"+1 -2 +3", boosting[1:], []int{1, -1, 1}, nil},
		{"-1 +2 -3", boosting[1:], []int{1, -1, 1}, []int{0, 1, 2}},
		{"+1 -2 +3", []impl.Plane{planeOf(4, 1)}, []int{-1, -1, -1}, []int{0, 2}},
		{"+1 -2 +3", []impl.Plane{planeOf(4, 1), planeOf(4, 1)}, []int{-1, -1, -1}, []int{0, 2}},
		{"+0,0 -0,1 -1,0 +1,1", []impl.Plane{planeOf(1, 1, 1), planeOf(2, 1, 1)}, []int{-1, 1, 1, 1}, []int{0, 1, 2}},
		{"+0,0 -0,1 -1,0 +1,1", []impl.Plane{planeOf(2, 1, 1), planeOf(0, -1, -1)}, []int{1, -1, -1, 1}, nil},
		{"+0 -0", []impl.Plane{planeOf(0, 1), planeOf(1, 1)}, []int{1, 1}, []int{1}},
		{"-9,-9,-9,-9", slices.Repeat([]impl.Plane{planeOf(99, 99, 99, 99, 99)}, 9), []int{-1}, nil},
		{"none", boosting, nil, nil},
		{"none", slices.Repeat([]impl.Plane{planeOf(1, 2, 3)}, 9), nil, nil},
	} {
		s := sampleOfText(t, c.text)
		if mistakes, ok := impl.JuryMistakes(s, c.jury); !ok || !slices.Equal(mistakes, c.mistakes) {
			t.Errorf("%s, %v: %v, %v", c.text, c.jury, mistakes, ok)
		}
		for i, x := range s.Points {
			if side, ok := impl.JurySide(c.jury, x); !ok || side != c.sides[i] {
				t.Errorf("%v, %v: %d, %v", c.jury, x, side, ok)
			}
		}
	}
}

// notJuries returns lists of Planes that are no juries of Planes with 2 Weights.
func notJuries() [][]impl.Plane {
	one := planeOf(0, 1, 1)
	list := [][]impl.Plane{
		nil, {}, slices.Repeat([]impl.Plane{one}, 10), slices.Repeat([]impl.Plane{one}, 100), make([]impl.Plane, 9),
		{planeOf(0, 1), one}, {one, planeOf(0, 1)}, {one, one, planeOf(0, 1, 1, 1)}, {planeOf(0, 1, 1, 1), one, one},
		append(slices.Repeat([]impl.Plane{one}, 8), planeOf(0, 1)),
	}
	for _, p := range notPlanes() {
		list = append(list, []impl.Plane{p}, []impl.Plane{one, p}, []impl.Plane{p, one}, []impl.Plane{one, p, one})
	}
	return list
}

// Lists that are no juries have neither sides nor mistakes, also for Samples without points, which
// Planes with any numbers of Weights suit.
func TestListsThatAreNoJuries(t *testing.T) {
	points := sampleOf([]int{1, -1}, []int{1, 1}, []int{0, 3})
	for _, jury := range notJuries() {
		side, one := impl.JurySide(jury, []int{1, 1})
		if one || side != 0 {
			t.Errorf("%.200v: %d, %v", jury, side, one)
		}
		for _, s := range []impl.Sample{{}, points} {
			mistakes, two := impl.JuryMistakes(s, jury)
			made, three := impl.SidesSample(s, jury)
			if two || three || len(mistakes) > 0 || !sameText(made, impl.Sample{}) {
				t.Errorf("%v, %.200v: %v, %v; %v, %v", s, jury, mistakes, two, made, three)
			}
		}
	}
}

// Juries only have sides of points, and mistakes in Samples, with as many numbers as Weights.
func TestJuriesThatDoNotSuit(t *testing.T) {
	for d := range 6 {
		for e := range 6 {
			jury := slices.Repeat([]impl.Plane{always(e, -1)}, 3)
			x := make([]int, d)
			fine := d == e && d >= 1 && d <= 4
			side, one := impl.JurySide(jury, x)
			mistakes, two := impl.JuryMistakes(sampleOf([]int{1}, x), jury)
			made, three := impl.SidesSample(sampleOf([]int{1}, x), jury)
			if one != fine || two != fine || three != fine || len(mistakes) != -side || len(made.Points) != -side || (side == -1) != fine {
				t.Errorf("%d numbers, %d Weights: %d, %v; %v, %v; %v, %v", d, e, side, one, mistakes, two, made, three)
			}
		}
	}
}

// eachJury calls a function with many Samples and juries that suit them.
func eachJury(seed int64, call func(s impl.Sample, jury []impl.Plane)) {
	r := rand.New(rand.NewSource(seed))
	for d := 1; d <= 4; d++ {
		for n := 0; n <= 16; n++ {
			for size := 1; size <= 9; size++ {
				s := randomSample(r, n, d, 1+r.Intn(9))
				jury := drawJury(r, size, d, 1+r.Intn(10))
				call(s, jury)
				if n == 0 {
					continue
				}
				jury[r.Intn(size)] = drawStump(r, s)
				for i, x := range s.Points {
					s.Labels[i] = jurySideBy(jury, x)
				}
				call(s, jury)
				s.Labels[r.Intn(n)] *= -1
				call(s, jury)
			}
		}
	}
}

// The sides and mistakes of a jury are those by the definition; the jury of one Plane has those of
// the Plane, as one of the same Plane many times does.
func TestJuriesByTheDefinition(t *testing.T) {
	fitting := 0
	eachJury(220, func(s impl.Sample, jury []impl.Plane) {
		mistakes, one := impl.JuryMistakes(s, jury)
		if !one || !slices.Equal(mistakes, juryMistakesBy(s, jury)) {
			t.Fatalf("%v, %v: %v, %v", s, jury, mistakes, one)
		}
		if len(mistakes) == 0 {
			fitting++
		}
		for _, x := range s.Points {
			if side, ok := impl.JurySide(jury, x); !ok || side != jurySideBy(jury, x) {
				t.Fatalf("%v, %v: %d, %v", jury, x, side, ok)
			}
		}
		own, two := impl.MistakesOf(s, jury[0])
		for _, times := range []int{1, 2, 9} {
			same, three := impl.JuryMistakes(s, slices.Repeat(jury[:1], times))
			if !two || !three || !slices.Equal(own, same) {
				t.Fatalf("%v, %v: %v, %v, but %d times %v, %v", s, jury[0], own, two, times, same, three)
			}
		}
	})
	if fitting < 500 {
		t.Error("only", fitting, "juries had no mistakes")
	}
}

func TestFittingJury(t *testing.T) {
	for _, c := range []struct {
		text string
		k    int
		want []impl.Plane // nil if there is none
	}{
		{"+1 -2 +3", 1, nil},
		{"+1 -2 +3", 2, []impl.Plane{planeOf(3, 1), planeOf(-1, -1)}},
		{"+1 -2 +3", 3, []impl.Plane{planeOf(1, 1), planeOf(3, 1), planeOf(-1, -1)}},
		{"-1 +2 -3", 1, nil},
		{"-1 +2 -3", 2, nil},
		{"-1 +2 -3", 3, []impl.Plane{planeOf(2, 1), planeOf(4, 1), planeOf(-2, -1)}},
		{"+1 -2 +3 -4", 2, nil},
		{"+1 -2 +3 -4", 3, []impl.Plane{planeOf(3, 1), planeOf(-3, -1), planeOf(-1, -1)}},
		{"+1 -2 +3 -4 +5", 3, nil},
		{"+5", 1, stumpList([]int{5}, nil)},
		{"+5", 2, stumpList([]int{5, 5}, nil)},
		{"+5", 3, stumpList([]int{5, 5, 5}, nil)},
		{"-5", 3, stumpList([]int{5, 6, 6}, nil)},
		{"-5", 2, stumpList([]int{6, 6}, nil)},
		{"-1 +2", 1, stumpList([]int{2}, nil)},
		{"-1 +2", 2, stumpList([]int{2, 2}, nil)},
		{"-1 +2", 3, stumpList([]int{1, 2, 2}, nil)},
		{"+1 -2", 1, stumpList(nil, []int{-1})},
		{"+1 -2", 3, []impl.Plane{planeOf(1, 1), planeOf(3, 1), planeOf(-1, -1)}},
		{"+0 -0", 1, nil}, {"+0 -0", 2, nil}, {"+0 -0", 3, nil},
		{"-0,0 +0,1 +1,0 -1,1", 3, nil},
		{"-0,0 -0,1 -1,0 +1,1", 2, nil},
		{"-0,0 +0,1 +1,0 +1,1", 2, []impl.Plane{planeOf(1, 1, 0), planeOf(1, 0, 1)}},
		{"-0,0 -0,1 -1,0 +1,1", 3, []impl.Plane{planeOf(1, 1, 0), planeOf(2, 1, 0), planeOf(1, 0, 1)}},
	} {
		jury, ok := impl.FittingJury(sampleOfText(t, c.text), c.k)
		if ok != (c.want != nil) || !sameText(jury, slices.Concat([]impl.Plane{}, c.want)) {
			t.Errorf("%s, %d: %v, %v", c.text, c.k, jury, ok)
		}
	}
}

// There are no fitting juries of other numbers of Planes, and none for more than MaxFew points.
func TestNoFittingJuries(t *testing.T) {
	for n := 1; n <= 16; n++ {
		s := repeated(n, 1, 2, 3)
		for _, k := range []int{1, 2, 3} {
			jury, ok := impl.FittingJury(s, k)
			if ok != (n <= 8) || ok && len(jury) != k || !ok && len(jury) > 0 {
				t.Errorf("%d points, %d: %v, %v", n, k, jury, ok)
			}
		}
		for _, value := range badJurySizes() {
			if jury, ok := impl.FittingJury(s, value.(int)); ok || len(jury) > 0 {
				t.Errorf("%d points, %d: %v, %v", n, value, jury, ok)
			}
		}
	}
}

// checkFitting checks the fitting juries of a Sample against a search of them all.
func checkFitting(t *testing.T, s impl.Sample, most int, count map[string]int) {
	t.Helper()
	for k := 1; k <= most; k++ {
		jury, ok := impl.FittingJury(s, k)
		want, found := fittingBy(s, k)
		if ok != found || !sameText(jury, slices.Concat([]impl.Plane{}, want)) {
			t.Fatalf("%v, %d: %v, %v, not %v", s, k, jury, ok, want)
		}
		switch {
		case !ok:
			count["none"]++
		case sameText(jury[0], jury[k-1]):
			count["one"]++
		default:
			count["several"]++
		}
	}
}

// Fitting juries are the lexicographically first ones without mistakes, for all small Samples and
// for others.
func TestFittingJuriesBySearch(t *testing.T) {
	count := map[string]int{}
	eachSmallest(4, func(s impl.Sample) { checkFitting(t, s, 3, count) })
	eachFewPoints(221, 8, func(s impl.Sample) {
		most := 2
		if len(s.Points)*len(s.Points[0]) <= 12 {
			most = 3
		}
		checkFitting(t, s, most, count)
	})
	if count["none"] < 300 || count["one"] < 300 || count["several"] < 300 {
		t.Error(count)
	}
}

// The greatest searches find the first jury, too, where there is one, and else none.
func TestFittingJuriesOfManyStumps(t *testing.T) {
	r := rand.New(rand.NewSource(222))
	count := map[string]int{}
	for range 6 {
		s := randomSample(r, 8, 4, 9)
		checkFitting(t, s, 3, count)
		side := drawSides(r, s)[3]
		for i, x := range s.Points {
			s.Labels[i] = side(x)
		}
		checkFitting(t, s, 3, count)
	}
	if count["none"] < 5 || count["several"] < 5 {
		t.Error(count)
	}
}

// A Sample that a fitting jury of fewer Planes fits has one of more, and that of one Plane parts it.
func TestFittingJuriesFit(t *testing.T) {
	fitted := 0
	eachFewPoints(223, 8, func(s impl.Sample) {
		fits := [4]bool{}
		for k := 1; k <= 3; k++ {
			jury, ok := impl.FittingJury(s, k)
			fits[k] = ok
			if !ok {
				continue
			}
			fitted++
			mistakes, fine := impl.JuryMistakes(s, jury)
			if !fine || len(mistakes) > 0 || len(jury) != k {
				t.Fatalf("%v, %d: %v with %v, %v", s, k, jury, mistakes, fine)
			}
			if can, _ := impl.CanPart(s); k == 1 && !can {
				t.Fatalf("%v fits %v, which cannot be parted", jury, s)
			}
		}
		if fits[1] && !fits[2] || fits[1] && !fits[3] {
			t.Fatalf("%v: %v", s, fits)
		}
	})
	if fitted < 500 {
		t.Error("only", fitted, "juries")
	}
}

func TestSidesSample(t *testing.T) {
	boosting := stumpList([]int{1, 3}, []int{-1})
	for _, c := range []struct {
		text string
		jury []impl.Plane
		want string
	}{
		{"+1 -2 +3", boosting, "+1,-1,1 -1,-1,-1 +1,1,-1"},
		{"+1 -2 +3", boosting[1:2], "+-1 --1 +1"},
		{"-7", slices.Concat(boosting, boosting[:1]), "-1,1,-1,1"},
		{"+0,0 -0,1", []impl.Plane{planeOf(1, 0, 1), planeOf(0, 0, 0)}, "+-1,1 -1,1"},
		{"none", boosting, "none"},
		{"none", slices.Repeat(boosting[:1], 4), "none"},
	} {
		made, ok := impl.SidesSample(sampleOfText(t, c.text), c.jury)
		if text, fine := impl.SampleText(made); !ok || !fine || text != c.want {
			t.Errorf("%s, %v: %s, %v", c.text, c.jury, text, ok)
		}
	}
}

// Juries of up to MaxSpace Planes have a Sample of their sides, in which the Plane with the Weights
// 1 and the Bound 0 has the mistakes of the jury: so it can be parted if there are none.
func TestSamplesOfSides(t *testing.T) {
	made := map[string]int{}
	eachJury(224, func(s impl.Sample, jury []impl.Plane) {
		sides, ok := impl.SidesSample(s, jury)
		if len(jury) > 4 {
			if ok || !sameText(sides, impl.Sample{}) {
				t.Fatalf("%v, %d Planes: %v, %v", s, len(jury), sides, ok)
			}
			made["too many"]++
			return
		}
		if !ok || !impl.IsSample(sides) || !slices.Equal(sides.Labels, s.Labels) || len(sides.Points) != len(s.Points) {
			t.Fatalf("%v, %v: %v, %v", s, jury, sides, ok)
		}
		for j, p := range jury {
			for i, x := range s.Points {
				if len(sides.Points[i]) != len(jury) || sides.Points[i][j] != sideBy(p, x) {
					t.Fatalf("%v, %v: %v", s, jury, sides)
				}
			}
		}
		own, one := impl.JuryMistakes(s, jury)
		same, two := impl.MistakesOf(sides, planeOf(0, slices.Repeat([]int{1}, len(jury))...))
		can, three := impl.CanPart(sides)
		if !one || !two || !three || !slices.Equal(own, same) || len(own) == 0 && !can {
			t.Fatalf("%v, %v: %v, %v; %v, %v; %v", s, jury, own, one, same, two, can)
		}
		made[map[bool]string{true: "parted", false: "not parted"}[can]]++
	})
	if made["too many"] < 500 || made["parted"] < 200 || made["not parted"] < 200 {
		t.Error(made)
	}
}
