package tests

import (
	"fmt"
	"math/rand"
	"slices"
	"testing"

	"loop.example/g01135/impl"
)

// The tests of this file check what chapters 2, 4 and 7 promise together with the stumps of
// chapter 8.

// A stump of a Sample is a Plane that suits it, and has its mistakes; the jury of it alone and the
// Plane turned have those that chapter 2 says.
func TestStumpsAreLikeOtherPlanes(t *testing.T) {
	r := rand.New(rand.NewSource(240))
	check := func(s impl.Sample) {
		stumps, ok := impl.StumpsOf(s)
		hefts := slices.Repeat([]int{1}, len(s.Points))
		for _, p := range stumps {
			mistakes, one := impl.MistakesOf(s, p)
			alone, two := impl.JuryMistakes(s, []impl.Plane{p})
			sum, three := impl.WeightedMistakes(s, hefts, p)
			if !ok || !impl.IsStump(p) || !impl.IsPlane(p) || !one || !two || !three {
				t.Fatalf("%v: %v", s, p)
			}
			if !slices.Equal(mistakes, mistakesBy(s, p)) || !slices.Equal(mistakes, alone) || sum != len(mistakes) {
				t.Fatalf("%v, %v: %v, %v and %d", s, p, mistakes, alone, sum)
			}
			turned, four := impl.TurnPlane(p)
			rest, five := impl.MistakesOf(s, turned)
			if !four || !five || !impl.IsStump(turned) || !slices.Equal(rest, placesBesides(len(s.Points), mistakes)) {
				t.Fatalf("%v, %v: %v, but %v with %v", s, p, mistakes, rest, turned)
			}
			if len(mistakes) == 0 {
				checkPlane(t, r, s, p)
			}
		}
	}
	eachSmallest(4, check)
	eachFewPoints(241, 16, check)
}

// The stumps at one place with one Weight have sides that are all different: the first one has
// just 1, and the last one just -1. All stumps together have the sides turned, too.
func TestSidesOfStumps(t *testing.T) {
	eachSample(t, 242, func(s impl.Sample) {
		stumps, _ := impl.StumpsOf(s)
		count := map[string]map[string]bool{}
		sums := map[string][]int{}
		lists := [][]int{}
		for _, p := range stumps {
			sides, ok := impl.SidesOf(s, p)
			if !ok {
				t.Fatalf("%v: %v", s, p)
			}
			lists = append(lists, sides)
			key := fmt.Sprint(p.Weights)
			if count[key] == nil {
				count[key] = map[string]bool{}
			}
			count[key][fmt.Sprint(sides)] = true
			sums[key] = append(sums[key], sumBy(sides))
		}
		n := len(s.Points)
		for key, list := range sums {
			if len(count[key]) != len(list) || list[0] != n || list[len(list)-1] != -n {
				t.Fatalf("%v: the sides %v", s, count)
			}
		}
		for _, sides := range lists {
			other := func(list []int) bool { return slices.Equal(list, otherSides(sides)) }
			if !slices.ContainsFunc(lists, other) {
				t.Fatalf("%v: %v, but not turned", s, sides)
			}
		}
	})
}

func otherSides(sides []int) []int {
	others := []int{}
	for _, side := range sides {
		others = append(others, -side)
	}
	return others
}

// A Sample that a stump fits can be parted, no stump has fewer mistakes than there must be, and all
// its sides are a hypothesis of PlaneClass.
func TestStumpsPart(t *testing.T) {
	fitted, others := 0, 0
	eachFewPoints(243, 8, func(s impl.Sample) {
		hefts, _ := impl.UniformHefts(s, 1)
		best, one := impl.BestStump(s, hefts)
		least, two := impl.WeightedMistakes(s, hefts, best)
		must, three := impl.LeastMistakes(s)
		can, four := impl.CanPart(s)
		if !one || !two || !three || !four || least < len(must) || can != (len(must) == 0) {
			t.Fatalf("%v: %v has %d mistakes, but %v are needed", s, best, least, must)
		}
		if least == 0 {
			fitted++
		} else {
			others++
		}
		class, five := impl.PlaneClass(s.Points)
		stumps, _ := impl.StumpsOf(s)
		for _, p := range stumps {
			sides, six := impl.SidesOf(s, p)
			of, seven := impl.VersionOf(class, placesBesides(len(s.Points), nil), sides)
			if !five || !six || !seven || len(of) != 1 {
				t.Fatalf("%v: the sides %v of %v are %v of the class", s, sides, p, of)
			}
		}
	})
	if fitted < 100 || others < 100 {
		t.Error(fitted, others)
	}
}

// The stumps of a moved Sample are the stumps moved, and its best stumps and rounds too.
func TestMovedStumps(t *testing.T) {
	r := rand.New(rand.NewSource(244))
	count := 0
	eachFewPoints(245, 16, func(s impl.Sample) {
		by := randomList(r, len(s.Points[0]), 1+r.Intn(9))
		moved, ok := impl.MoveSample(s, by)
		if !ok {
			return
		}
		count++
		before, one := impl.StumpsOf(s)
		behind, two := impl.StumpsOf(moved)
		checkMoved(t, before, behind, by, one && two)
		before, hefts, one := impl.BoostRounds(s, 5)
		behind, same, two := impl.BoostRounds(moved, 5)
		checkMoved(t, before, behind, by, one && two && slices.Equal(hefts, same))
		root, low, high, one := impl.BestChoice(s)
		far, below, above, two := impl.BestChoice(moved)
		checkMoved(t, []impl.Plane{root, low, high}, []impl.Plane{far, below, above}, by, one && two)
	})
	if count < 200 {
		t.Error("only", count)
	}
}

// checkMoved checks that some Planes moved are some others.
func checkMoved(t *testing.T, before, behind []impl.Plane, by []int, fine bool) {
	t.Helper()
	moved := []impl.Plane{}
	for _, p := range before {
		far, ok := impl.MovePlane(p, by)
		moved, fine = append(moved, far), fine && ok
	}
	if !fine || !sameText(moved, behind) {
		t.Fatalf("%v, moved by %v: %v", before, by, behind)
	}
}

// A joined Sample has the mistakes of both, for juries and for choices.
func TestMistakesOfJoinedSamples(t *testing.T) {
	r := rand.New(rand.NewSource(246))
	for range 1000 {
		d := 1 + r.Intn(4)
		a, b := randomSample(r, r.Intn(9), d, 4), randomSample(r, r.Intn(9), d, 4)
		both, ok := impl.JoinSamples(a, b)
		jury := drawJury(r, 3+r.Intn(7), d, 4)
		for name, mistakes := range map[string]func(s impl.Sample) ([]int, bool){
			"jury":   func(s impl.Sample) ([]int, bool) { return impl.JuryMistakes(s, jury) },
			"choice": func(s impl.Sample) ([]int, bool) { return impl.ChoiceMistakes(s, jury[0], jury[1], jury[2]) },
		} {
			list, one := mistakes(a)
			later, two := mistakes(b)
			all, three := mistakes(both)
			for _, place := range later {
				list = append(list, place+len(a.Points))
			}
			if !ok || !one || !two || !three || !slices.Equal(all, list) {
				t.Fatalf("%v and %v, the %s %v: %v, %v", a, b, name, jury, list, all)
			}
		}
	}
}
