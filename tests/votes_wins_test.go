package tests

import (
	"math"
	"math/rand"
	"slices"
	"testing"

	"loop.example/g01135/impl"
)

// The limits are those of the document.
func TestLimitsOfVotes(t *testing.T) {
	if impl.MaxVoters != 8 || impl.MaxShare != 20 {
		t.Error(impl.MaxVoters, impl.MaxShare)
	}
}

func TestIsVote(t *testing.T) {
	for _, v := range []impl.Vote{
		voteOf(1, 1), voteOf(20, 20), voteOf(1, 20), voteOf(1, 0, 1), voteOf(1, 1, 0), voteOf(40, 20, 20), voteOf(3, 0, 3, 0), voteOf(2, 1, 1),
		voteOf(1, 0, 0, 0, 0, 0, 0, 0, 1), voteOf(1, slices.Repeat([]int{20}, 8)...), voteOf(160, slices.Repeat([]int{20}, 8)...),
	} {
		if !impl.IsVote(v) {
			t.Errorf("%v is no Vote", v)
		}
	}
	for _, v := range notVotes() {
		if impl.IsVote(v) {
			t.Errorf("%v is a Vote", v)
		}
	}
}

// A Vote has each Quota from 1 up to the sum, and no other one; its weights are in 0..MaxShare.
func TestQuotasAndWeights(t *testing.T) {
	r := rand.New(rand.NewSource(300))
	for n := 1; n <= 8; n++ {
		v := drawVote(r, n, 20)
		sum := sumBy(v.Weights)
		for quota := -3; quota <= 165; quota++ {
			if is := impl.IsVote(voteOf(quota, v.Weights...)); is != (quota >= 1 && quota <= sum) {
				t.Errorf("%v with the Quota %d: %v", v.Weights, quota, is)
			}
		}
		for i := range n {
			for weight := -3; weight <= 25; weight++ {
				weights := slices.Clone(v.Weights)
				weights[i] = weight
				if is := impl.IsVote(voteOf(1, weights...)); is != (weight >= 0 && weight <= 20 && sumBy(weights) > 0) {
					t.Errorf("%v: %v", weights, is)
				}
			}
		}
	}
	for n := range 12 {
		if is := impl.IsVote(voteOf(1, slices.Repeat([]int{1}, n)...)); is != (n >= 1 && n <= 8) {
			t.Errorf("%d voters: %v", n, is)
		}
	}
}

func TestWinsWith(t *testing.T) {
	v := voteOf(4, 3, 2, 1)
	for _, c := range []struct {
		set  []int
		wins bool
	}{
		{nil, false}, {[]int{}, false}, {[]int{0}, false}, {[]int{1}, false}, {[]int{2}, false},
		{[]int{0, 1}, true}, {[]int{0, 2}, true}, {[]int{1, 2}, false}, {[]int{0, 1, 2}, true},
	} {
		if wins, ok := impl.WinsWith(v, c.set); !ok || wins != c.wins {
			t.Errorf("%v: %v, %v", c.set, wins, ok)
		}
	}
	for _, set := range [][]int{
		{1, 0}, {0, 0}, {1, 1, 2}, {0, 2, 1}, {-1}, {3}, {0, 3}, {-1, 0}, {0, 1, 2, 3}, {0, 1, 1}, {math.MaxInt}, {math.MinInt}, {0, 1, 2, 2}, make([]int, 100),
	} {
		if wins, ok := impl.WinsWith(v, set); ok || wins {
			t.Errorf("%v: %v, %v", set, wins, ok)
		}
	}
}

func TestLeastWinsAndGreatestLosses(t *testing.T) {
	for _, c := range []struct {
		v             impl.Vote
		least, losses [][]int
		count         int
	}{
		{voteOf(1, 1), [][]int{{0}}, [][]int{{}}, 1},
		{voteOf(4, 3, 2, 1), [][]int{{0, 1}, {0, 2}}, [][]int{{0}, {1, 2}}, 3},
		{voteOf(1, 1, 1, 1), [][]int{{0}, {1}, {2}}, [][]int{{}}, 7},
		{voteOf(3, 1, 1, 1), [][]int{{0, 1, 2}}, [][]int{{0, 1}, {0, 2}, {1, 2}}, 1},
		{voteOf(2, 1, 1, 1), [][]int{{0, 1}, {0, 2}, {1, 2}}, [][]int{{0}, {1}, {2}}, 4},
		{voteOf(1, 0, 1), [][]int{{1}}, [][]int{{0}}, 2},
		{voteOf(1, 1, 0), [][]int{{0}}, [][]int{{1}}, 2},
		{voteOf(2, 0, 1, 0, 1), [][]int{{1, 3}}, [][]int{{0, 1, 2}, {0, 2, 3}}, 4},
		{voteOf(5, 5, 1, 1, 1), [][]int{{0}}, [][]int{{1, 2, 3}}, 8},
		// The set of the single voter 3 comes before those of more voters, and they by their voters.
		{voteOf(3, 1, 1, 1, 3), [][]int{{3}, {0, 1, 2}}, [][]int{{0, 1}, {0, 2}, {1, 2}}, 9},
		{voteOf(3, 2, 1, 2, 1), [][]int{{0, 1}, {0, 2}, {0, 3}, {1, 2}, {2, 3}}, [][]int{{0}, {2}, {1, 3}}, 10},
	} {
		least, one := impl.LeastWins(c.v)
		losses, two := impl.GreatestLosses(c.v)
		count, three := impl.CountWins(c.v)
		if !one || !two || !three || !sameText(least, c.least) || !sameText(losses, c.losses) || count != c.count {
			t.Errorf("%v: %v, %v; %v, %v; %d, %v", c.v, least, one, losses, two, count, three)
		}
	}
}

// The wins are those of the document, for Votes of up to MaxVoters voters.
func TestWinsAreThoseOfTheDocument(t *testing.T) {
	eachVote(301, 8, func(v impl.Vote) {
		least, one := impl.LeastWins(v)
		losses, two := impl.GreatestLosses(v)
		count, three := impl.CountWins(v)
		if !one || !two || !three || !sameText(least, leastWinsBy(v)) || !sameText(losses, greatestLossesBy(v)) || count != winsCountBy(v) {
			t.Fatalf("%v: %v, %v; %v, %v; %d, %v", v, least, one, losses, two, count, three)
		}
		for _, set := range setsOfVoters(v) {
			if wins, ok := impl.WinsWith(v, set); !ok || wins != winsBy(v, set) {
				t.Fatalf("%v, %v: %v, %v", v, set, wins, ok)
			}
		}
	})
}

// contains tells whether a set has all voters of another one.
func contains(set, other []int) bool {
	return !slices.ContainsFunc(other, func(voter int) bool { return !slices.Contains(set, voter) })
}

// A set wins exactly if it has all voters of a least win, and loses exactly if a greatest loss has
// all of its voters.
func TestSetsHaveLeastWinsOrAreInGreatestLosses(t *testing.T) {
	eachVote(302, 8, func(v impl.Vote) {
		least, _ := impl.LeastWins(v)
		losses, _ := impl.GreatestLosses(v)
		for _, set := range setsOfVoters(v) {
			wins, _ := impl.WinsWith(v, set)
			has := slices.ContainsFunc(least, func(win []int) bool { return contains(set, win) })
			in := slices.ContainsFunc(losses, func(loss []int) bool { return contains(loss, set) })
			if has != wins || in == wins {
				t.Fatalf("%v, %v: %v; %v, %v", v, set, wins, has, in)
			}
		}
	})
}

// The numbers of Votes of the most voters are known.
func TestWinsOfManyVoters(t *testing.T) {
	for quota, want := range []int{0, 255, 247, 219, 163, 93, 37, 9, 1} {
		v := voteOf(quota, slices.Repeat([]int{1}, 8)...)
		count, ok := impl.CountWins(v)
		least, _ := impl.LeastWins(v)
		losses, _ := impl.GreatestLosses(v)
		if ok != (quota > 0) || count != want {
			t.Errorf("Quota %d: %d, %v", quota, count, ok)
		}
		sizes := []int{0, 8, 28, 56, 70, 56, 28, 8, 1, 0}
		if ok && (len(least) != sizes[quota] || len(losses) != max(sizes[quota-1], 1)) {
			t.Errorf("Quota %d: %v, %v", quota, least, losses)
		}
	}
}
