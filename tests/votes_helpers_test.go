package tests

import (
	"math"
	"math/rand"
	"slices"

	"loop.example/g01135/impl"
)

// The functions of this file follow the document's definitions of chapter 6 apart from the
// program.

func voteOf(quota int, weights ...int) impl.Vote {
	return impl.Vote{Weights: weights, Quota: quota}
}

func roomyVote(v impl.Vote) impl.Vote { return voteOf(v.Quota, roomy(v.Weights, 80)...) }

func sumBy(list []int) int {
	sum := 0
	for _, n := range list {
		sum += n
	}
	return sum
}

// weightOf returns the weight of a set.
func weightOf(v impl.Vote, set []int) int {
	sum := 0
	for _, voter := range set {
		sum += v.Weights[voter]
	}
	return sum
}

func winsBy(v impl.Vote, set []int) bool { return weightOf(v, set) >= v.Quota }

// setsOfVoters returns all sets of voters in the order in which sets are compared.
func setsOfVoters(v impl.Vote) [][]int { return setsOf(len(v.Weights), len(v.Weights)) }

func votersOf(v impl.Vote) []int { return placesBesides(len(v.Weights), nil) }

func withoutVoter(set []int, voter int) []int {
	return slices.DeleteFunc(slices.Clone(set), func(other int) bool { return other == voter })
}

func withVoter(set []int, voter int) []int {
	more := append(slices.Clone(set), voter)
	slices.Sort(more)
	return more
}

func leastWinsBy(v impl.Vote) [][]int {
	return slices.DeleteFunc(setsOfVoters(v), func(set []int) bool {
		without := func(voter int) bool { return winsBy(v, withoutVoter(set, voter)) }
		return !winsBy(v, set) || slices.ContainsFunc(set, without)
	})
}

func greatestLossesBy(v impl.Vote) [][]int {
	return slices.DeleteFunc(setsOfVoters(v), func(set []int) bool {
		with := func(voter int) bool { return !winsBy(v, withVoter(set, voter)) }
		return winsBy(v, set) || slices.ContainsFunc(placesBesides(len(v.Weights), set), with)
	})
}

func winsCountBy(v impl.Vote) int {
	count := 0
	for _, set := range setsOfVoters(v) {
		if winsBy(v, set) {
			count++
		}
	}
	return count
}

func swingsBy(v impl.Vote) []int {
	swings := make([]int, len(v.Weights))
	for _, set := range setsOfVoters(v) {
		for _, voter := range set {
			if winsBy(v, set) && !winsBy(v, withoutVoter(set, voter)) {
				swings[voter]++
			}
		}
	}
	return swings
}

// pivotBy returns the voter with whom the voters of an order win for the first time.
func pivotBy(v impl.Vote, order []int) int {
	for i := range order {
		if winsBy(v, order[:i+1]) {
			return order[i]
		}
	}
	return -1
}

func ordersBy(v impl.Vote) []int {
	counts := make([]int, len(v.Weights))
	for _, order := range ordersOf(len(v.Weights)) {
		counts[pivotBy(v, order)]++
	}
	return counts
}

// vetoesBy returns the voters without whom no set wins.
func vetoesBy(v impl.Vote) []int {
	return slices.DeleteFunc(votersOf(v), func(voter int) bool {
		return slices.ContainsFunc(setsOfVoters(v), func(set []int) bool {
			return winsBy(v, set) && !slices.Contains(set, voter)
		})
	})
}

// dictatorsBy returns the voters who win alone and without whom no set wins.
func dictatorsBy(v impl.Vote) []int {
	return slices.DeleteFunc(vetoesBy(v), func(voter int) bool { return !winsBy(v, []int{voter}) })
}

// isProperBy tells whether no two sets without a common voter win.
func isProperBy(v impl.Vote) bool {
	winning := slices.DeleteFunc(setsOfVoters(v), func(set []int) bool { return !winsBy(v, set) })
	for _, a := range winning {
		for _, b := range winning {
			if !slices.ContainsFunc(a, func(voter int) bool { return slices.Contains(b, voter) }) {
				return false
			}
		}
	}
	return true
}

// isStrongBy tells whether of each set and that of all other voters at least one wins.
func isStrongBy(v impl.Vote) bool {
	return !slices.ContainsFunc(setsOfVoters(v), func(set []int) bool {
		return !winsBy(v, set) && !winsBy(v, placesBesides(len(v.Weights), set))
	})
}

// voteTableBy returns the table of a Vote of at most 4 voters.
func voteTableBy(v impl.Vote) []int {
	table := []int{}
	for _, x := range bitPoints()[:1<<len(v.Weights)] {
		bit := 0
		if winsBy(v, placesAbove(x)) {
			bit = 1
		}
		table = append(table, bit)
	}
	return table
}

// isGameBy tells whether a table is a game: no set loses that has all the voters of one that wins.
func isGameBy(table []int) bool {
	for k, win := range table {
		for more := range table {
			if win == 1 && k&more == k && table[more] == 0 {
				return false
			}
		}
	}
	return len(table) > 1 && table[0] == 0 && table[len(table)-1] == 1
}

// eachQuota calls a function with all Votes that have some weights.
func eachQuota(weights []int, call func(v impl.Vote)) {
	for quota := 1; quota <= sumBy(weights); quota++ {
		call(voteOf(quota, weights...))
	}
}

// eachSmallVote calls a function with all Votes of at most 4 voters with small weights.
func eachSmallVote(call func(v impl.Vote)) {
	for n, most := range []int{0, 4, 3, 2, 2} {
		for k := range power(most+1, n) {
			eachQuota(digits(k, most+1, n), call)
		}
	}
}

// drawVote returns a Vote of n voters with weights of at most limit: some have a Quota of 1, and
// some one of the whole sum.
func drawVote(r *rand.Rand, n, limit int) impl.Vote {
	weights := make([]int, n)
	for sumBy(weights) == 0 {
		for i := range weights {
			weights[i] = r.Intn(limit + 1)
		}
	}
	sum := sumBy(weights)
	return voteOf([]int{1, sum, 1 + r.Intn(sum), 1 + r.Intn(sum)}[r.Intn(4)], weights...)
}

// eachVote calls a function with all small Votes and with drawn ones of up to most voters.
func eachVote(seed int64, most int, call func(v impl.Vote)) {
	eachSmallVote(call)
	r := rand.New(rand.NewSource(seed))
	for n := 1; n <= most; n++ {
		for _, limit := range []int{1, 2, 3, 6, 20} {
			for range 6 {
				call(drawVote(r, n, limit))
			}
		}
		call(voteOf(20*n, slices.Repeat([]int{20}, n)...))
		call(voteOf(1, slices.Repeat([]int{20}, n)...))
	}
}

func notVotes() []impl.Vote {
	return []impl.Vote{
		{}, {Weights: []int{}}, {Quota: 1}, voteOf(0, 1), voteOf(-1, 1), voteOf(2, 1), voteOf(math.MinInt, 1), voteOf(math.MaxInt, 1),
		voteOf(0, 0), voteOf(1, 0), voteOf(1, 0, 0, 0), voteOf(1, make([]int, 8)...), voteOf(0, 1, 2), voteOf(4, 1, 2), voteOf(41, 20, 20),
		voteOf(1, 21), voteOf(1, -1), voteOf(1, 2, -1), voteOf(1, -1, 2), voteOf(1, 21, 1), voteOf(1, 1, 21), voteOf(1, 1, math.MaxInt),
		voteOf(1, math.MaxInt, math.MaxInt, 3), voteOf(1, math.MinInt, 1), voteOf(1, math.MinInt, math.MinInt, 1), voteOf(1, math.MaxInt-1, math.MinInt, 3),
		voteOf(1, slices.Repeat([]int{1}, 9)...), voteOf(9, slices.Repeat([]int{1}, 9)...), voteOf(1, slices.Repeat([]int{20}, 100)...),
		voteOf(161, slices.Repeat([]int{20}, 8)...), voteOf(0, slices.Repeat([]int{20}, 8)...),
	}
}
