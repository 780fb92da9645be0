package tests

import (
	"slices"
	"testing"

	"loop.example/g01135/impl"
)

func TestBoostRounds(t *testing.T) {
	three := []impl.Plane{planeOf(1, 1), planeOf(3, 1), planeOf(-1, -1)}
	for _, c := range []struct {
		text   string
		rounds int
		stumps []impl.Plane
		hefts  []int
		bound  int // 0 for no round, for which there is none
	}{
		{"+1 -2 +3", 0, nil, []int{1, 1, 1}, 0},
		{"+1 -2 +3", 1, three[:1], []int{1, 2, 1}, 2},
		{"+1 -2 +3", 2, three[:2], []int{2, 2, 1}, 2},
		{"+1 -2 +3", 3, three, []int{2, 2, 2}, 1},
		{"+1 -2 +3", 4, slices.Concat(three, three[:1]), []int{2, 4, 2}, 2},
		{"+1 -2 +3", 5, slices.Concat(three, three[:2]), []int{4, 4, 2}, 1},
		{"+1 -2 +3", 6, slices.Concat(three, three), []int{4, 4, 4}, 1},
		{"+1 -2 +3", 7, slices.Concat(three, three, three[:1]), []int{4, 8, 4}, 1},
		{"+1 -2 +3", 8, slices.Concat(three, three, three[:2]), []int{8, 8, 4}, 1},
		{"+0 -0", 0, nil, []int{1, 1}, 0},
		{"+0 -0", 1, stumpList([]int{0}, nil), []int{1, 2}, 1},
		{"+0 -0", 2, stumpList([]int{0, 1}, nil), []int{2, 2}, 2},
		{"+0 -0", 3, []impl.Plane{planeOf(0, 1), planeOf(1, 1), planeOf(0, 1)}, []int{2, 4}, 1},
		{"+5", 0, nil, []int{1}, 0},
		{"+5", 1, stumpList([]int{5}, nil), []int{1}, 0},
		{"-5", 2, stumpList([]int{6, 6}, nil), []int{1}, 0},
		{"-5 +-6", 8, slices.Repeat(stumpList(nil, []int{6}), 8), []int{1, 1}, 0},
		{"+0,1 -0,0", 3, slices.Repeat([]impl.Plane{planeOf(1, 0, 1)}, 3), []int{1, 1}, 0},
	} {
		s := sampleOfText(t, c.text)
		stumps, hefts, one := impl.BoostRounds(s, c.rounds)
		bound, two := impl.BoostBound(s, c.rounds)
		if !one || !sameText(stumps, slices.Concat([]impl.Plane{}, c.stumps)) || !slices.Equal(hefts, c.hefts) {
			t.Errorf("%s, %d rounds: %v, %v, %v", c.text, c.rounds, stumps, hefts, one)
		}
		if two != (c.rounds > 0) || bound != c.bound {
			t.Errorf("%s, %d rounds: the bound %d, %v", c.text, c.rounds, bound, two)
		}
	}
}

// There are no fewer rounds than none, and no more than MaxBoosts.
func TestOtherNumbersOfRounds(t *testing.T) {
	for _, text := range []string{"+1 -2 +3", "+5", "+0 -0"} {
		s := sampleOfText(t, text)
		for _, value := range badBoosts() {
			stumps, hefts, one := impl.BoostRounds(s, value.(int))
			bound, two := impl.BoostBound(s, value.(int))
			if one || two || len(stumps) > 0 || len(hefts) > 0 || bound != 0 {
				t.Errorf("%s, %d rounds: %v, %v, %v; %d, %v", text, value, stumps, hefts, one, bound, two)
			}
		}
		if bound, ok := impl.BoostBound(s, 0); ok || bound != 0 {
			t.Errorf("%s, no round: %d, %v", text, bound, ok)
		}
	}
}

// boundOfHefts is the bound of the document for the hefts at the end, by as many halvings.
func boundOfHefts(hefts []int, rounds int) int {
	sum := sumBy(hefts)
	for done := 0; done < rounds; done += 2 {
		sum /= 2
	}
	return sum
}

// boosted is how the mistakes of juries compare with their bounds.
type boosted struct{ equal, less, none int }

// checkBoosting checks the rounds of boosting of a Sample, and promise 8: the jury has at most as
// many mistakes as the hefts tell.
func checkBoosting(t *testing.T, s impl.Sample, count *boosted) {
	t.Helper()
	for rounds := range 9 {
		stumps, hefts, one := impl.BoostRounds(s, rounds)
		want, weights := boostedBy(s, rounds)
		if !one || !sameText(stumps, want) || !slices.Equal(hefts, weights) {
			t.Fatalf("%v, %d rounds: %v, %v, %v", s, rounds, stumps, hefts, one)
		}
		bound, two := impl.BoostBound(s, rounds)
		if two != (rounds > 0) || two && bound != boundOfHefts(hefts, rounds) || !two && bound != 0 {
			t.Fatalf("%v, %d rounds: the bound %d, %v", s, rounds, bound, two)
		}
		if !two {
			continue
		}
		mistakes, three := impl.JuryMistakes(s, stumps)
		switch {
		case !three || len(mistakes) > bound:
			t.Fatalf("%v, %d rounds: %v, %v, but the bound is %d", s, rounds, mistakes, three, bound)
		case len(mistakes) == 0:
			count.none++
		case len(mistakes) == bound:
			count.equal++
		default:
			count.less++
		}
	}
}

// Promise 8, for Samples of each size, and for all small ones.
func TestJuriesOfBoostingKeepTheirBound(t *testing.T) {
	count := boosted{}
	eachSmallest(3, func(s impl.Sample) { checkBoosting(t, s, &count) })
	eachFewPoints(210, 16, func(s impl.Sample) { checkBoosting(t, s, &count) })
	checkBoosting(t, greatSample(), &count)
	if count.equal < 100 || count.less < 100 || count.none < 100 {
		t.Errorf("%+v", count)
	}
}

// Each round begins where the rounds before it end, and takes the best stump for their hefts. This
// has at most half of their sum as its weighted mistakes, so that the sum grows by no more than that.
func TestRoundsGoOnWithTheHefts(t *testing.T) {
	eachFewPoints(211, 12, func(s impl.Sample) {
		hefts, _ := impl.UniformHefts(s, 1)
		before := []impl.Plane{}
		for rounds := 1; rounds <= 8; rounds++ {
			stumps, next, one := impl.BoostRounds(s, rounds)
			best, two := impl.BestStump(s, hefts)
			sum, three := impl.WeightedMistakes(s, hefts, best)
			before = append(before, best)
			if !one || !two || !three || !sameText(stumps, before) || sumBy(next) != sumBy(hefts)+sum || 2*sum > sumBy(hefts) {
				t.Fatalf("%v, %d rounds: %v, %v; %v", s, rounds, stumps, next, before)
			}
			hefts = next
		}
	})
}

// At a point at which the jury is wrong, at least half of the stumps are, so it has a heft of at
// least 2 to the power of this.
func TestMistakesHaveGreatHefts(t *testing.T) {
	found := 0
	eachFewPoints(212, 16, func(s impl.Sample) {
		for _, rounds := range []int{1, 2, 3, 7, 8} {
			stumps, hefts, _ := impl.BoostRounds(s, rounds)
			mistakes, ok := impl.JuryMistakes(s, stumps)
			if !ok {
				t.Fatalf("%v, %d rounds: %v", s, rounds, stumps)
			}
			for _, place := range mistakes {
				if hefts[place] < power(2, (rounds+1)/2) {
					t.Fatalf("%v, %d rounds: %v are mistakes, with the hefts %v", s, rounds, mistakes, hefts)
				}
				found++
			}
		}
	})
	if found < 500 {
		t.Error("only", found, "mistakes")
	}
}
