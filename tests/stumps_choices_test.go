package tests

import (
	"math/rand"
	"slices"
	"testing"

	"loop.example/g01135/impl"
)

func TestChoices(t *testing.T) {
	for _, c := range []struct {
		text     string
		choice   choiceOf
		sides    []int
		mistakes []int
	}{
		{"+1 -2 +3", choiceOf{planeOf(2, 1), planeOf(1, 1), planeOf(3, 1)}, []int{1, -1, 1}, nil},
		{"+1 -2 +3", choiceOf{planeOf(2, 1), planeOf(3, 1), planeOf(1, 1)}, []int{-1, 1, 1}, []int{0, 1}},
		{"+1 -2 +3", choiceOf{planeOf(-1, -1), planeOf(3, 1), planeOf(1, 1)}, []int{1, -1, 1}, nil},
		{"+1 -2 +3", choiceOf{planeOf(1, 1), planeOf(9, 1), planeOf(3, 1)}, []int{-1, -1, 1}, []int{0}},
		{"+1 -2 +3", choiceOf{planeOf(4, 1), planeOf(3, 1), planeOf(1, 1)}, []int{-1, -1, 1}, []int{0}},
		{"+1 -2 +3", choiceOf{planeOf(4, 1), planeOf(4, 1), planeOf(4, 1)}, []int{-1, -1, -1}, []int{0, 2}},
		{"-0,0 +0,1 +1,0 -1,1", choiceOf{planeOf(1, 1, 0), planeOf(1, 0, 1), planeOf(0, 0, -1)}, []int{-1, 1, 1, -1}, nil},
		{"-0,0 +0,1 +1,0 -1,1", choiceOf{planeOf(1, 1, 0), planeOf(0, 0, -1), planeOf(1, 0, 1)}, []int{1, -1, -1, 1}, []int{0, 1, 2, 3}},
		{"-0,0 +0,1 +1,0 -1,1", choiceOf{planeOf(1, 1, 1), planeOf(99, 9, 9), planeOf(-1, -1, -1)}, []int{-1, 1, 1, -1}, nil},
		{"+5", choiceOf{planeOf(5, 1), planeOf(6, 1), planeOf(5, 1)}, []int{1}, nil},
		{"none", choiceOf{planeOf(5, 1), planeOf(6, 1), planeOf(5, 1)}, nil, nil},
	} {
		s := sampleOfText(t, c.text)
		if mistakes, ok := impl.ChoiceMistakes(s, c.choice.root, c.choice.low, c.choice.high); !ok || !slices.Equal(mistakes, c.mistakes) {
			t.Errorf("%s, %v: %v, %v", c.text, c.choice, mistakes, ok)
		}
		for i, x := range s.Points {
			if side, ok := impl.ChoiceSide(c.choice.root, c.choice.low, c.choice.high, x); !ok || side != c.sides[i] {
				t.Errorf("%v, %v: %d, %v", c.choice, x, side, ok)
			}
		}
	}
}

// putInto returns three Planes, all the same but for one place.
func putInto(place int, p, other impl.Plane) choiceOf {
	list := []impl.Plane{p, p, p}
	list[place] = other
	return choiceOf{list[0], list[1], list[2]}
}

// Each one of three Planes must suit the point, also one that would not be asked for its side.
func TestPlanesThatAreNoChoice(t *testing.T) {
	for place := range 3 {
		for _, side := range []int{1, -1} {
			for _, other := range append(notPlanes(), always(1, 1), always(3, 1), always(4, -1)) {
				c := putInto(place, always(2, side), other)
				got, one := impl.ChoiceSide(c.root, c.low, c.high, []int{1, 2})
				list, two := impl.ChoiceMistakes(sampleOf([]int{-side}, []int{1, 2}), c.root, c.low, c.high)
				if one || two || got != 0 || len(list) > 0 {
					t.Errorf("%.200v: %d, %v; %v, %v", c, got, one, list, two)
				}
			}
		}
	}
	for _, x := range append(notPoints(), otherLengths()...) {
		p := always(2, 1)
		if side, ok := impl.ChoiceSide(p, p, p, x); ok || side != 0 {
			t.Errorf("%.100v: %d, %v", x, side, ok)
		}
	}
}

// All Planes suit a Sample without points, also with different numbers of Weights.
func TestChoicesWithoutPoints(t *testing.T) {
	for d := range 6 {
		for e := range 6 {
			for place := range 3 {
				c := putInto(place, always(d, 1), always(e, 1))
				list, ok := impl.ChoiceMistakes(impl.Sample{}, c.root, c.low, c.high)
				if fine := min(d, e) >= 1 && max(d, e) <= 4; ok != fine || len(list) > 0 {
					t.Errorf("%v: %v, %v", c, list, ok)
				}
			}
		}
	}
}

// The sides and mistakes of a choice are those by the definition; three times the same Plane have
// its mistakes.
func TestChoicesByTheDefinition(t *testing.T) {
	count := map[int]int{}
	r := rand.New(rand.NewSource(230))
	eachPair(231, func(s impl.Sample, root impl.Plane) {
		d := len(root.Weights)
		c := choiceOf{root, randomPlane(r, d, 5), randomPlane(r, d, 20)}
		list, ok := impl.ChoiceMistakes(s, c.root, c.low, c.high)
		if !ok || !slices.Equal(list, c.mistakesBy(s)) {
			t.Fatalf("%v, %v: %v, %v", s, c, list, ok)
		}
		for _, x := range s.Points {
			side, ok := impl.ChoiceSide(c.root, c.low, c.high, x)
			if !ok || side != c.sideBy(x) {
				t.Fatalf("%v, %v: %d, %v", c, x, side, ok)
			}
			count[side]++
		}
		same, ok := impl.ChoiceMistakes(s, root, root, root)
		if !ok || !slices.Equal(same, mistakesBy(s, root)) {
			t.Fatalf("%v, %v: %v, %v", s, root, same, ok)
		}
	})
	if count[1] < 1000 || count[-1] < 1000 {
		t.Error(count)
	}
}

func TestBestChoice(t *testing.T) {
	for _, c := range []struct {
		text string
		want choiceOf
	}{
		{"+1 -2 +3", choiceOf{planeOf(2, 1), planeOf(1, 1), planeOf(3, 1)}},
		{"+1 -2 +3 -4", choiceOf{planeOf(3, 1), planeOf(-1, -1), planeOf(-3, -1)}},
		{"-0,0 +0,1 +1,0 -1,1", choiceOf{planeOf(1, 1, 0), planeOf(1, 0, 1), planeOf(0, 0, -1)}},
		{"+5", choiceOf{planeOf(5, 1), planeOf(5, 1), planeOf(5, 1)}},
		{"-5", choiceOf{planeOf(5, 1), planeOf(5, 1), planeOf(6, 1)}},
		{"+0 -0", choiceOf{planeOf(0, 1), planeOf(0, 1), planeOf(0, 1)}},
		{"+0 -0 -0", choiceOf{planeOf(0, 1), planeOf(0, 1), planeOf(1, 1)}},
		{"+1 -2", choiceOf{planeOf(1, 1), planeOf(1, 1), planeOf(-1, -1)}},
		{"-1 +2 -3", choiceOf{planeOf(2, 1), planeOf(2, 1), planeOf(-2, -1)}},
	} {
		root, low, high, ok := impl.BestChoice(sampleOfText(t, c.text))
		if !ok || !sameText(choiceOf{root, low, high}, c.want) {
			t.Errorf("%s: %v, %v, %v, %v", c.text, root, low, high, ok)
		}
	}
}

// The best choice is the first one with the fewest mistakes, which are at most as many as those of
// any stump; often all points lie on one side of its root.
func TestBestChoicesBySearch(t *testing.T) {
	count := map[string]int{}
	check := func(s impl.Sample) {
		root, low, high, one := impl.BestChoice(s)
		c := choiceOf{root, low, high}
		if !one || !sameText(c, bestChoiceBy(s)) {
			t.Fatalf("%v: %v, %v, not %v", s, c, one, bestChoiceBy(s))
		}
		mistakes, two := impl.ChoiceMistakes(s, root, low, high)
		stumps, three := impl.StumpsOf(s)
		for _, p := range stumps {
			if alone, ok := impl.MistakesOf(s, p); !ok || !two || !three || len(mistakes) > len(alone) {
				t.Fatalf("%v: %v has %v, %v, but %v has %v", s, c, mistakes, two, p, alone)
			}
		}
		switch sides, _ := impl.SidesOf(s, root); {
		case slices.Contains(sides, -1) && slices.Contains(sides, 1):
			count["both"]++
		default:
			count["one"]++
		}
		if len(mistakes) > 0 {
			count["mistakes"]++
		}
	}
	eachSmallest(4, check)
	eachFewPoints(232, 16, check)
	check(greatSample())
	if count["both"] < 100 || count["one"] < 100 || count["mistakes"] < 100 {
		t.Error(count)
	}
}

// The parts of a best choice have the best stumps of the PartSamples, for hefts of 1.
func TestPartsOfBestChoices(t *testing.T) {
	eachFewPoints(233, 12, func(s impl.Sample) {
		root, low, high, ok := impl.BestChoice(s)
		if !ok {
			t.Fatalf("%v: %v", s, ok)
		}
		for side, stump := range map[int]impl.Plane{-1: low, 1: high} {
			sides, _ := impl.SidesOf(s, root)
			places := slices.DeleteFunc(placesBesides(len(sides), nil), func(i int) bool { return sides[i] != side })
			part, one := impl.PartSample(s, places)
			hefts, two := impl.UniformHefts(part, 1)
			best, three := impl.BestStump(part, hefts)
			if !three {
				best = root
			}
			if !one || !two || three != (len(places) > 0) || !sameText(best, stump) {
				t.Fatalf("%v, %v, the side %d: %v, not %v", s, root, side, stump, best)
			}
		}
	})
}
