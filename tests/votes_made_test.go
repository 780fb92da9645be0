package tests

import (
	"fmt"
	"math"
	"math/rand"
	"slices"
	"testing"

	"loop.example/g01135/impl"
)

func TestDualVote(t *testing.T) {
	for _, c := range []struct{ v, dual impl.Vote }{
		{voteOf(4, 3, 2, 1), voteOf(3, 3, 2, 1)}, {voteOf(1, 1), voteOf(1, 1)}, {voteOf(1, 20), voteOf(20, 20)}, {voteOf(20, 20), voteOf(1, 20)},
		{voteOf(1, 1, 0, 1), voteOf(2, 1, 0, 1)}, {voteOf(2, 1, 1, 1), voteOf(2, 1, 1, 1)},
		{voteOf(160, slices.Repeat([]int{20}, 8)...), voteOf(1, slices.Repeat([]int{20}, 8)...)},
	} {
		if dual, ok := impl.DualVote(c.v); !ok || !sameText(dual, c.dual) {
			t.Errorf("%v: %v, %v", c.v, dual, ok)
		}
	}
}

// A set wins in the dual Vote exactly if all other voters lose in the Vote; the dual Vote of the dual
// one is the Vote; and CountWins of both are together the number of all sets.
func TestDualVotesAreThoseOfTheDocument(t *testing.T) {
	eachVote(320, 8, func(v impl.Vote) {
		dual, one := impl.DualVote(v)
		twice, two := impl.DualVote(dual)
		if !one || !two || !impl.IsVote(dual) || !slices.Equal(dual.Weights, v.Weights) || !sameText(twice, v) {
			t.Fatalf("%v: %v, %v; %v, %v", v, dual, one, twice, two)
		}
		for _, set := range setsOfVoters(v) {
			wins, ok := impl.WinsWith(dual, set)
			if !ok || wins == winsBy(v, placesBesides(len(v.Weights), set)) {
				t.Fatalf("%v, %v: %v, %v", v, set, wins, ok)
			}
		}
		count, _ := impl.CountWins(v)
		other, _ := impl.CountWins(dual)
		if count+other != 1<<len(v.Weights) {
			t.Fatalf("%v: %d and %d", v, count, other)
		}
	})
}

// Promise 6: dual Votes have the same power, and the same dummies; the greatest losses of one are
// the least wins of the other one, without their voters.
func TestDualVotesHaveTheSamePower(t *testing.T) {
	eachVote(321, 8, func(v impl.Vote) {
		dual, _ := impl.DualVote(v)
		for name, f := range map[string]func(impl.Vote) ([]int, bool){"SwingCounts": impl.SwingCounts, "OrderCounts": impl.OrderCounts, "DummiesOf": impl.DummiesOf} {
			power, one := f(v)
			other, two := f(dual)
			if !one || !two || !slices.Equal(power, other) {
				t.Fatalf("%s of %v: %v, of %v: %v", name, v, power, dual, other)
			}
		}
		least, _ := impl.LeastWins(dual)
		losses, _ := impl.GreatestLosses(v)
		rests := map[string]bool{}
		for _, set := range least {
			rests[fmt.Sprint(placesBesides(len(v.Weights), set))] = true
		}
		for _, set := range losses {
			if !rests[fmt.Sprint(set)] || len(rests) != len(losses) {
				t.Fatalf("%v: the losses %v, and the least wins %v of the dual", v, losses, least)
			}
		}
	})
}

func TestIsProperAndIsStrong(t *testing.T) {
	for _, c := range []struct {
		v              impl.Vote
		proper, strong bool
	}{
		{voteOf(1, 1), true, true}, {voteOf(4, 3, 2, 1), true, false}, {voteOf(3, 3, 2, 1), false, true}, {voteOf(2, 1, 1, 1), true, true},
		{voteOf(1, 1, 1), false, true}, {voteOf(2, 1, 1), true, false}, {voteOf(1, 0, 1), true, true}, {voteOf(2, 1, 1, 1, 1), false, true},
		{voteOf(3, 1, 1, 1, 1), true, false}, {voteOf(2, 2, 1, 1), false, true}, {voteOf(3, 2, 1, 1), true, false}, {voteOf(3, 2, 1, 1, 1), true, true},
		{voteOf(6, 6, 1, 1), true, true}, {voteOf(7, 6, 6, 2), true, true}, {voteOf(9, 6, 6, 2), true, false},
		// Each Vote is proper or strong: a Quota of half the sum is the greatest with which it is surely strong.
		{voteOf(80, slices.Repeat([]int{20}, 8)...), false, true}, {voteOf(81, slices.Repeat([]int{20}, 8)...), true, false},
	} {
		proper, one := impl.IsProper(c.v)
		strong, two := impl.IsStrong(c.v)
		if !one || proper != c.proper || !two || strong != c.strong {
			t.Errorf("%v: proper %v, %v; strong %v, %v", c.v, proper, one, strong, two)
		}
	}
}

func TestProperAndStrongVotesAreThoseOfTheDocument(t *testing.T) {
	count := map[[2]bool]int{}
	check := func(v impl.Vote, most int) {
		proper, one := impl.IsProper(v)
		strong, two := impl.IsStrong(v)
		if !one || !two || strong != isStrongBy(v) || len(v.Weights) <= most && proper != isProperBy(v) {
			t.Fatalf("%v: proper %v, %v; strong %v, %v", v, proper, one, strong, two)
		}
		count[[2]bool{proper, strong}]++
		dual, _ := impl.DualVote(v)
		properDual, _ := impl.IsProper(dual)
		strongDual, _ := impl.IsStrong(dual)
		if strong != properDual || proper != strongDual {
			t.Fatalf("%v: %v, %v; its dual: %v, %v", v, proper, strong, properDual, strongDual)
		}
		wins, _ := impl.CountWins(v)
		if half := 1 << (len(v.Weights) - 1); proper && wins > half || strong && wins < half {
			t.Fatalf("%v: %d sets win, and it is proper: %v, and strong: %v", v, wins, proper, strong)
		}
	}
	eachVote(322, 8, func(v impl.Vote) { check(v, 5) })
	r := rand.New(rand.NewSource(323))
	for n := 6; n <= 8; n++ {
		for range 4 {
			v := drawVote(r, n, 20)
			half := sumBy(v.Weights) / 2
			check(voteOf(max(half, 1), v.Weights...), 8)
			check(voteOf(half+1, v.Weights...), 8)
		}
	}
	// If two sets that together have each voter once win, the sum is at least 2 times the Quota; if
	// two such sets lose, it is less.
	if count[[2]bool{true, true}] < 50 || count[[2]bool{true, false}] < 50 || count[[2]bool{false, true}] < 50 || count[[2]bool{false, false}] > 0 {
		t.Error(count)
	}
}

func TestSameWins(t *testing.T) {
	for _, c := range []struct {
		a, b impl.Vote
		same bool
	}{
		{voteOf(4, 3, 2, 1), voteOf(3, 2, 1, 1), true}, {voteOf(4, 3, 2, 1), voteOf(4, 3, 1, 2), true}, {voteOf(4, 3, 2, 1), voteOf(3, 3, 2, 1), false},
		{voteOf(1, 1), voteOf(20, 20), true}, {voteOf(1, 0, 1), voteOf(1, 1, 0), false}, {voteOf(1, 0, 1), voteOf(2, 1, 3), true},
		{voteOf(2, 1, 1), voteOf(1, 1, 1), false}, {voteOf(4, 2, 2, 1), voteOf(4, 2, 2, 2), false}, {voteOf(3, 2, 2, 1), voteOf(4, 2, 2, 2), true},
		// Only the set of all voters, or that of the last one alone, wins in just one of these.
		{voteOf(8, slices.Repeat([]int{1}, 8)...), voteOf(7, slices.Repeat([]int{1}, 8)...), false},
		{voteOf(2, 2, 2, 2, 2, 2, 2, 2, 1), voteOf(1, 2, 2, 2, 2, 2, 2, 2, 1), false}, {voteOf(2, 2, 2, 2, 2, 2, 2, 2, 1), voteOf(2, 2, 2, 2, 2, 2, 2, 2, 0), true},
	} {
		if same, ok := impl.SameWins(c.a, c.b); !ok || same != c.same {
			t.Errorf("%v, %v: %v, %v", c.a, c.b, same, ok)
		}
	}
	for _, c := range [][2]impl.Vote{
		{voteOf(1, 1), voteOf(1, 1, 0)}, {voteOf(1, 1, 0), voteOf(1, 1)}, {voteOf(1, 1, 1, 1), voteOf(1, 1, 1)},
		{voteOf(1, slices.Repeat([]int{1}, 8)...), voteOf(1, slices.Repeat([]int{1}, 7)...)}, {{}, {}}, {voteOf(0, 1), voteOf(0, 1)},
	} {
		if same, ok := impl.SameWins(c[0], c[1]); ok || same {
			t.Errorf("%v: %v, %v", c, same, ok)
		}
	}
}

func sameWinsBy(a, b impl.Vote) bool {
	return !slices.ContainsFunc(setsOfVoters(a), func(set []int) bool { return winsBy(a, set) != winsBy(b, set) })
}

// checkWins checks whether the same sets win in two Votes; it returns whether it is so.
func checkWins(t *testing.T, a, b impl.Vote) bool {
	t.Helper()
	same, one := impl.SameWins(a, b)
	back, two := impl.SameWins(b, a)
	if !one || !two || same != sameWinsBy(a, b) || back != same {
		t.Fatalf("%v, %v: %v, %v; %v, %v", a, b, same, one, back, two)
	}
	return same
}

// All pairs of small Votes are compared, and pairs of great ones of which some differ in few sets.
func TestSameWinsAreThoseOfTheDocument(t *testing.T) {
	small := map[int][]impl.Vote{}
	eachSmallVote(func(v impl.Vote) {
		if n := len(v.Weights); n < 4 || sumBy(v.Weights) <= 3 {
			small[n] = append(small[n], v)
		}
	})
	count := map[bool]int{}
	for n, list := range small {
		for _, a := range list {
			for _, b := range list {
				count[checkWins(t, a, b)]++
			}
			for other := n + 1; other <= 4; other++ {
				if same, ok := impl.SameWins(a, small[other][0]); ok || same {
					t.Fatalf("%v, %v: %v, %v", a, small[other][0], same, ok)
				}
			}
		}
	}
	r := rand.New(rand.NewSource(324))
	for range 300 {
		v := drawVote(r, 5+r.Intn(4), 10)
		quota := max(1, v.Quota-r.Intn(3))
		count[checkWins(t, v, voteOf(quota, v.Weights...))]++
		twice := slices.Clone(v.Weights)
		for i := range twice {
			twice[i] *= 2
		}
		if !checkWins(t, v, voteOf(2*v.Quota, twice...)) || !checkWins(t, v, voteOf(2*v.Quota-1, twice...)) {
			t.Fatalf("%v is another one with double weights", v)
		}
	}
	if count[true] < 500 || count[false] < 500 {
		t.Error(count)
	}
}

func TestMergeVoters(t *testing.T) {
	for _, c := range []struct {
		v    impl.Vote
		i, j int
		want impl.Vote
	}{
		{voteOf(4, 3, 2, 1), 1, 2, voteOf(4, 3, 3)}, {voteOf(4, 3, 2, 1), 2, 1, voteOf(4, 3, 3)}, {voteOf(4, 3, 2, 1), 0, 1, voteOf(4, 5, 1)},
		{voteOf(4, 3, 2, 1), 1, 0, voteOf(4, 5, 1)}, {voteOf(4, 3, 2, 1), 0, 2, voteOf(4, 4, 2)}, {voteOf(4, 3, 2, 1), 2, 0, voteOf(4, 2, 4)},
		{voteOf(2, 1, 1), 0, 1, voteOf(2, 2)}, {voteOf(1, 0, 1), 1, 0, voteOf(1, 1)}, {voteOf(1, 0, 1), 0, 1, voteOf(1, 1)},
		{voteOf(3, 10, 10), 0, 1, voteOf(3, 20)}, {voteOf(20, 20, 0), 1, 0, voteOf(20, 20)}, {voteOf(1, 0, 5, 0), 0, 2, voteOf(1, 0, 5)},
		{voteOf(5, 1, 2, 3, 4, 5, 6, 7, 8), 6, 2, voteOf(5, 1, 2, 4, 5, 6, 10, 8)},
	} {
		if merged, ok := impl.MergeVoters(c.v, c.i, c.j); !ok || !sameText(merged, c.want) {
			t.Errorf("%v, %d, %d: %v, %v", c.v, c.i, c.j, merged, ok)
		}
	}
	for _, c := range []struct {
		v    impl.Vote
		i, j int
	}{
		{voteOf(4, 3, 2, 1), 1, 1}, {voteOf(1, 1), 0, 0}, {voteOf(1, 0, 1), 0, 0}, {voteOf(3, 11, 10), 0, 1}, {voteOf(3, 20, 1), 1, 0}, {voteOf(1, 20, 20), 0, 1},
		{voteOf(4, 3, 2, 1), 3, 0}, {voteOf(4, 3, 2, 1), 0, 3}, {voteOf(4, 3, 2, 1), -1, 0}, {voteOf(4, 3, 2, 1), 0, -1}, {voteOf(1, 1), 0, 1}, {voteOf(1, 1), 1, 0},
	} {
		if merged, ok := impl.MergeVoters(c.v, c.i, c.j); ok || !sameText(merged, impl.Vote{}) {
			t.Errorf("%v, %d, %d: %v, %v", c.v, c.i, c.j, merged, ok)
		}
	}
}

// A set wins behind a merging exactly if it won before, with the other one beside the voter.
func TestMergedVotersWinAsBoth(t *testing.T) {
	merges := 0
	eachVote(325, 6, func(v impl.Vote) {
		for _, i := range votersOf(v) {
			for _, j := range votersOf(v) {
				merged, ok := impl.MergeVoters(v, i, j)
				if possible := i != j && v.Weights[i]+v.Weights[j] <= 20; ok != possible {
					t.Fatalf("%v, %d, %d: %v, %v", v, i, j, merged, ok)
				}
				if !ok {
					continue
				}
				merges++
				for _, set := range setsOfVoters(merged) {
					before := []int{}
					for _, voter := range set {
						old := placesBesides(len(v.Weights), []int{j})[voter]
						before = append(before, old)
						if old == i {
							before = append(before, j)
						}
					}
					if wins, ok := impl.WinsWith(merged, set); !ok || wins != winsBy(v, before) {
						t.Fatalf("%v, %d, %d: %v, %v, %v", v, i, j, set, wins, ok)
					}
				}
			}
		}
	})
	if merges < 2000 {
		t.Error("only", merges)
	}
}

func TestSplitVoter(t *testing.T) {
	for _, c := range []struct {
		v       impl.Vote
		i, part int
		want    impl.Vote
	}{
		{voteOf(4, 3, 2, 1), 0, 1, voteOf(4, 1, 2, 1, 2)}, {voteOf(4, 3, 2, 1), 0, 0, voteOf(4, 0, 2, 1, 3)}, {voteOf(4, 3, 2, 1), 0, 3, voteOf(4, 3, 2, 1, 0)},
		{voteOf(4, 3, 2, 1), 2, 1, voteOf(4, 3, 2, 1, 0)}, {voteOf(4, 3, 2, 1), 2, 0, voteOf(4, 3, 2, 0, 1)}, {voteOf(1, 0, 1), 0, 0, voteOf(1, 0, 1, 0)},
		{voteOf(20, 20), 0, 13, voteOf(20, 13, 7)}, {voteOf(2, 1, 1, 1, 1, 1, 1, 4), 6, 2, voteOf(2, 1, 1, 1, 1, 1, 1, 2, 2)},
	} {
		if split, ok := impl.SplitVoter(c.v, c.i, c.part); !ok || !sameText(split, c.want) {
			t.Errorf("%v, %d, %d: %v, %v", c.v, c.i, c.part, split, ok)
		}
	}
	for _, c := range []struct {
		v       impl.Vote
		i, part int
	}{
		{voteOf(4, 3, 2, 1), 0, -1}, {voteOf(4, 3, 2, 1), 0, 4}, {voteOf(4, 3, 2, 1), 2, 2}, {voteOf(1, 0, 1), 0, 1}, {voteOf(1, 0, 1), 0, -1},
		{voteOf(4, 3, 2, 1), 3, 0}, {voteOf(4, 3, 2, 1), -1, 0}, {voteOf(20, 20), 0, 21}, {voteOf(20, 20), 0, math.MinInt}, {voteOf(20, 20), 0, math.MaxInt},
		{voteOf(8, slices.Repeat([]int{1}, 8)...), 0, 0}, {voteOf(8, slices.Repeat([]int{1}, 8)...), 7, 1}, {voteOf(1, 0, 0, 0, 0, 0, 0, 0, 1), 0, 0},
	} {
		if split, ok := impl.SplitVoter(c.v, c.i, c.part); ok || !sameText(split, impl.Vote{}) {
			t.Errorf("%v, %d, %d: %v, %v", c.v, c.i, c.part, split, ok)
		}
	}
}

// Behind a splitting, both voters together are as the voter was, and merging them brings the Vote
// back; a part of all is as before, and the new voter a dummy.
func TestSplitVotersAreAsBefore(t *testing.T) {
	eachVote(326, 8, func(v impl.Vote) {
		for i, weight := range v.Weights {
			for part := -1; part <= weight+1; part++ {
				split, ok := impl.SplitVoter(v, i, part)
				if possible := len(v.Weights) < 8 && part >= 0 && part <= weight; ok != possible {
					t.Fatalf("%v, %d, %d: %v, %v", v, i, part, split, ok)
				}
				if !ok {
					continue
				}
				last := len(v.Weights)
				merged, ok := impl.MergeVoters(split, i, last)
				if !ok || !sameText(merged, v) || split.Quota != v.Quota || split.Weights[i] != part || !impl.IsVote(split) {
					t.Fatalf("%v, %d, %d: %v, and merged %v, %v", v, i, part, split, merged, ok)
				}
				if dummies, _ := impl.DummiesOf(split); part == weight && !slices.Contains(dummies, last) {
					t.Fatalf("%v, %d, %d: %v has the dummies %v", v, i, part, split, dummies)
				}
			}
		}
	})
}
