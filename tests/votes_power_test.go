package tests

import (
	"math"
	"math/rand"
	"slices"
	"testing"

	"loop.example/g01135/impl"
)

// checkPower checks the swings, the orders, the dummies, the vetoes and the dictator of a Vote; there
// is at most one dictator.
func checkPower(t *testing.T, v impl.Vote, swings, orders, dummies, vetoes, dictators []int) {
	t.Helper()
	gotSwings, one := impl.SwingCounts(v)
	gotOrders, two := impl.OrderCounts(v)
	gotDummies, three := impl.DummiesOf(v)
	gotVetoes, four := impl.VetoVoters(v)
	if !one || !slices.Equal(gotSwings, swings) || !two || !slices.Equal(gotOrders, orders) {
		t.Fatalf("%v: the swings %v, %v, not %v; the orders %v, %v, not %v", v, gotSwings, one, swings, gotOrders, two, orders)
	}
	if !three || !slices.Equal(gotDummies, dummies) || !four || !slices.Equal(gotVetoes, vetoes) {
		t.Fatalf("%v: the dummies %v, %v, not %v; the vetoes %v, %v, not %v", v, gotDummies, three, dummies, gotVetoes, four, vetoes)
	}
	dictator, ok := impl.DictatorOf(v)
	if ok != (len(dictators) == 1) || dictator != sumBy(dictators) {
		t.Fatalf("%v: the dictator %d, %v, not %v", v, dictator, ok, dictators)
	}
}

func TestPowerOfVoters(t *testing.T) {
	none := []int{}
	for _, c := range []struct {
		v                                          impl.Vote
		swings, orders, dummies, vetoes, dictators []int
	}{
		{voteOf(1, 1), []int{1}, []int{1}, none, []int{0}, []int{0}},
		{voteOf(20, 20), []int{1}, []int{1}, none, []int{0}, []int{0}},
		{voteOf(7, 20), []int{1}, []int{1}, none, []int{0}, []int{0}},
		{voteOf(4, 3, 2, 1), []int{3, 1, 1}, []int{4, 1, 1}, none, []int{0}, none},
		{voteOf(2, 1, 1), []int{1, 1}, []int{1, 1}, none, []int{0, 1}, none},
		{voteOf(1, 1, 1), []int{1, 1}, []int{1, 1}, none, none, none},
		{voteOf(2, 2, 2), []int{1, 1}, []int{1, 1}, none, none, none}, // both win alone, but none is needed
		{voteOf(1, 0, 1), []int{0, 2}, []int{0, 2}, []int{0}, []int{1}, []int{1}},
		{voteOf(1, 1, 0), []int{2, 0}, []int{2, 0}, []int{1}, []int{0}, []int{0}},
		{voteOf(2, 1, 3), []int{0, 2}, []int{0, 2}, []int{0}, []int{1}, []int{1}},
		{voteOf(5, 1, 1, 5, 1), []int{0, 0, 8, 0}, []int{0, 0, 24, 0}, []int{0, 1, 3}, []int{2}, []int{2}},
		{voteOf(3, 3, 1, 1, 1), []int{7, 1, 1, 1}, []int{18, 2, 2, 2}, none, none, none},
		{voteOf(4, 2, 1, 2, 0), []int{4, 0, 4, 0}, []int{12, 0, 12, 0}, []int{1, 3}, []int{0, 2}, none},
		{voteOf(4, 2, 2, 1), []int{2, 2, 0}, []int{3, 3, 0}, []int{2}, []int{0, 1}, none},
		{voteOf(51, 20, 20, 20), []int{1, 1, 1}, []int{2, 2, 2}, none, []int{0, 1, 2}, none},
		{voteOf(6, 3, 2, 1, 1, 0), []int{6, 6, 2, 2, 0}, []int{50, 50, 10, 10, 0}, []int{4}, []int{0, 1}, none},
		{voteOf(8, 1, 1, 1, 1, 1, 1, 1, 1), slices.Repeat([]int{1}, 8), slices.Repeat([]int{5040}, 8), none, []int{0, 1, 2, 3, 4, 5, 6, 7}, none},
		{voteOf(4, 1, 1, 1, 1, 1, 1, 1, 1), slices.Repeat([]int{35}, 8), slices.Repeat([]int{5040}, 8), none, none, none},
		{voteOf(1, 0, 0, 0, 0, 0, 0, 0, 1), []int{0, 0, 0, 0, 0, 0, 0, 128}, []int{0, 0, 0, 0, 0, 0, 0, 40320}, []int{0, 1, 2, 3, 4, 5, 6}, []int{7}, []int{7}},
	} {
		checkPower(t, c.v, c.swings, c.orders, c.dummies, c.vetoes, c.dictators)
	}
}

// dummiesBy returns the voters with no swings.
func dummiesBy(v impl.Vote) []int {
	swings := swingsBy(v)
	return slices.DeleteFunc(votersOf(v), func(voter int) bool { return swings[voter] > 0 })
}

// The power of voters is that of the document: the pivotal voters of all orders are counted.
func TestPowerIsThatOfTheDocument(t *testing.T) {
	eachVote(310, 5, func(v impl.Vote) {
		checkPower(t, v, swingsBy(v), ordersBy(v), dummiesBy(v), vetoesBy(v), dictatorsBy(v))
	})
	r := rand.New(rand.NewSource(311))
	for n := 6; n <= 8; n++ {
		for range 3 {
			v := drawVote(r, n, 4)
			checkPower(t, v, swingsBy(v), ordersBy(v), dummiesBy(v), vetoesBy(v), dictatorsBy(v))
		}
	}
}

// The OrderCounts have the number of all orders as their sum, and so have all voters together the
// pivotal one in each order.
func TestOrderCountsOfAllOrders(t *testing.T) {
	eachVote(312, 8, func(v impl.Vote) {
		orders := 1
		for k := range v.Weights {
			orders *= k + 1
		}
		if counts, ok := impl.OrderCounts(v); !ok || sumBy(counts) != orders || slices.Min(counts) < 0 {
			t.Fatalf("%v: %v, %v, not %d in all", v, counts, ok, orders)
		}
	})
}

func TestPivotalVoter(t *testing.T) {
	for _, c := range []struct {
		v     impl.Vote
		order []int
		pivot int
	}{
		{voteOf(1, 1), []int{0}, 0}, {voteOf(4, 3, 2, 1), []int{1, 2, 0}, 0}, {voteOf(4, 3, 2, 1), []int{0, 1, 2}, 1},
		{voteOf(4, 3, 2, 1), []int{0, 2, 1}, 2}, {voteOf(1, 3, 2, 1), []int{2, 0, 1}, 2}, {voteOf(6, 3, 2, 1), []int{2, 0, 1}, 1},
		{voteOf(1, 0, 1), []int{0, 1}, 1}, {voteOf(1, 0, 1), []int{1, 0}, 1}, {voteOf(1, 0, 0, 0, 1), []int{2, 0, 1, 3}, 3},
		{voteOf(3, 1, 1, 1, 0), []int{2, 1, 3, 0}, 0}, {voteOf(160, slices.Repeat([]int{20}, 8)...), []int{7, 6, 5, 4, 3, 2, 0, 1}, 1},
	} {
		if pivot, ok := impl.PivotalVoter(c.v, c.order); !ok || pivot != c.pivot {
			t.Errorf("%v, %v: %d, %v", c.v, c.order, pivot, ok)
		}
	}
	for _, order := range [][]int{
		nil, {}, {0}, {0, 1}, {1, 2, 3}, {0, 0, 1}, {0, 1, 1}, {2, 2, 2}, {0, 1, 2, 2}, {0, 1, 2, 3}, {-1, 0, 1}, {0, 1, 3},
		{0, 1, -1}, {0, 1, math.MaxInt}, {math.MinInt, 1, 2}, {0, 0, 0, 0}, make([]int, 100),
	} {
		if pivot, ok := impl.PivotalVoter(voteOf(4, 3, 2, 1), order); ok || pivot != 0 {
			t.Errorf("%v: %d, %v", order, pivot, ok)
		}
	}
}

// Each order has the pivotal voter of the document, who then has a swing with those before it.
func TestPivotalVotersOfAllOrders(t *testing.T) {
	check := func(v impl.Vote, order []int) {
		pivot, ok := impl.PivotalVoter(v, order)
		if !ok || pivot != pivotBy(v, order) {
			t.Fatalf("%v, %v: %d, %v", v, order, pivot, ok)
		}
	}
	eachVote(313, 4, func(v impl.Vote) {
		for _, order := range ordersOf(len(v.Weights)) {
			check(v, order)
		}
	})
	r := rand.New(rand.NewSource(314))
	for range 2000 {
		n := 5 + r.Intn(4)
		check(drawVote(r, n, 20), r.Perm(n))
	}
}

// A voter has no fewer swings, and is no less often pivotal, than one with a less weight, and as
// many as one with the same weight.
func TestGreaterWeightsHaveNoLessPower(t *testing.T) {
	eachVote(315, 8, func(v impl.Vote) {
		swings, _ := impl.SwingCounts(v)
		orders, _ := impl.OrderCounts(v)
		for i, weight := range v.Weights {
			for j, other := range v.Weights {
				if weight >= other && (swings[i] < swings[j] || orders[i] < orders[j]) {
					t.Fatalf("%v: the swings %v, the orders %v", v, swings, orders)
				}
			}
		}
	})
}

// Dummies have no veto and are never pivotal; voters of the weight 0 are dummies; a dictator is the
// only voter with swings.
func TestDummiesVetoesAndDictators(t *testing.T) {
	found := map[string]int{}
	eachVote(316, 8, func(v impl.Vote) {
		swings, _ := impl.SwingCounts(v)
		orders, _ := impl.OrderCounts(v)
		dummies, _ := impl.DummiesOf(v)
		vetoes, _ := impl.VetoVoters(v)
		for i, weight := range v.Weights {
			dummy := slices.Contains(dummies, i)
			if dummy && slices.Contains(vetoes, i) || dummy != (orders[i] == 0) || weight == 0 && !dummy {
				t.Fatalf("%v: the dummies %v, the vetoes %v, the orders %v", v, dummies, vetoes, orders)
			}
			if dummy && weight > 0 {
				found["heavy dummies"]++
			}
		}
		found["vetoes"] += len(vetoes)
		if dictator, ok := impl.DictatorOf(v); ok {
			found["dictators"]++
			if len(dummies) != len(v.Weights)-1 || swings[dictator] == 0 || !slices.Equal(vetoes, []int{dictator}) {
				t.Fatalf("%v: the dictator %d, the swings %v, the vetoes %v", v, dictator, swings, vetoes)
			}
		} else if len(dummies) == len(v.Weights)-1 {
			t.Fatalf("%v: no dictator, but the dummies %v", v, dummies)
		}
	})
	if found["heavy dummies"] < 20 || found["vetoes"] < 50 || found["dictators"] < 20 {
		t.Error(found)
	}
}

func TestQuotaSwings(t *testing.T) {
	for _, c := range []struct {
		v    impl.Vote
		i    int
		want []int
	}{
		{voteOf(4, 3, 2, 1), 0, []int{1, 2, 3, 3, 2, 1}}, {voteOf(1, 3, 2, 1), 0, []int{1, 2, 3, 3, 2, 1}},
		{voteOf(6, 3, 2, 1), 1, []int{1, 2, 1, 1, 2, 1}}, {voteOf(4, 3, 2, 1), 2, []int{1, 0, 1, 1, 0, 1}},
		{voteOf(1, 1), 0, []int{1}}, {voteOf(2, 3), 0, []int{1, 1, 1}}, {voteOf(1, 0, 1), 0, []int{0}}, {voteOf(1, 0, 1), 1, []int{2}},
		{voteOf(2, 1, 1), 1, []int{1, 1}}, {voteOf(1, 0, 2, 0), 2, []int{0, 0}},
	} {
		if swings, ok := impl.QuotaSwings(c.v, c.i); !ok || !slices.Equal(swings, c.want) {
			t.Errorf("%v, %d: %v, %v", c.v, c.i, swings, ok)
		}
	}
	for _, i := range []int{-1, 3, 4, 8, math.MinInt, math.MaxInt} {
		if swings, ok := impl.QuotaSwings(voteOf(4, 3, 2, 1), i); ok || len(swings) > 0 {
			t.Errorf("voter %d: %v, %v", i, swings, ok)
		}
	}
}

// checkQuotas checks that QuotaSwings are the swings for each Quota, whose sum is the weight of the
// voter times 2 to the power of the number of all other voters.
func checkQuotas(t *testing.T, v impl.Vote, by func(v impl.Vote) []int) {
	t.Helper()
	want := make([][]int, len(v.Weights))
	eachQuota(v.Weights, func(other impl.Vote) {
		for i, swings := range by(other) {
			want[i] = append(want[i], swings)
		}
	})
	for i, weight := range v.Weights {
		swings, ok := impl.QuotaSwings(v, i)
		if !ok || !slices.Equal(swings, want[i]) || sumBy(swings) != weight<<(len(v.Weights)-1) {
			t.Fatalf("%v, %d: %v, %v, not %v", v, i, swings, ok, want[i])
		}
	}
}

func TestQuotaSwingsAreTheSwings(t *testing.T) {
	eachVote(317, 8, func(v impl.Vote) {
		checkQuotas(t, v, func(other impl.Vote) []int {
			swings, _ := impl.SwingCounts(other)
			return swings
		})
	})
	r := rand.New(rand.NewSource(318))
	for n := 1; n <= 6; n++ {
		checkQuotas(t, drawVote(r, n, 20), swingsBy)
	}
}
