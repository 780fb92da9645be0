package tests

import (
	"math"
	"math/rand"
	"slices"
	"testing"

	"loop.example/g01135/impl"
)

// threeVoters returns a Vote without a dictator, and dictated one with a dictator.
func threeVoters() impl.Vote { return roomyVote(voteOf(4, 3, 2, 1)) }
func dictated() impl.Vote    { return roomyVote(voteOf(4, 2, 5, 1)) }

// manyVoters returns Votes of more voters than a table has bits.
func manyVoters() []impl.Vote {
	list := []impl.Vote{}
	for n := 5; n <= 8; n++ {
		list = append(list, voteOf(1, slices.Repeat([]int{1}, n)...))
	}
	return list
}

func drawVoters(r *rand.Rand) (int, impl.Vote) {
	n := 1 + r.Intn(8)
	return n, roomyVote(drawVote(r, n, 1+r.Intn(20)))
}

// voteContract returns that of a function of a Vote alone.
func voteContract(name string, f any) contract {
	return contract{
		name: name, f: f, valid: []any{threeVoters()}, wrong: [][]any{values(notVotes()...)},
		draw: func(r *rand.Rand) []any {
			_, v := drawVoters(r)
			if r.Intn(3) == 0 {
				v.Quota = r.Intn(30) - 5
			}
			return []any{v}
		},
	}
}

// voteContracts returns those of the functions of a Vote.
func voteContracts() []contract {
	dictator := voteContract("DictatorOf", impl.DictatorOf)
	dictator.valid = []any{dictated()}
	dictator.misfit = [][]any{{threeVoters()}, {voteOf(1, 1, 1)}, {voteOf(2, 1, 1)}, {voteOf(8, slices.Repeat([]int{1}, 8)...)}}
	dictator.draw = func(r *rand.Rand) []any { return []any{roomyVote(drawVote(r, 1+r.Intn(3), 5))} }
	table := voteContract("VoteTable", impl.VoteTable)
	table.wrong = [][]any{withValues(manyVoters(), notVotes())}
	return []contract{
		voteContract("IsVote", impl.IsVote),
		voteContract("LeastWins", impl.LeastWins),
		voteContract("GreatestLosses", impl.GreatestLosses),
		voteContract("CountWins", impl.CountWins),
		voteContract("SwingCounts", impl.SwingCounts),
		voteContract("OrderCounts", impl.OrderCounts),
		voteContract("DummiesOf", impl.DummiesOf),
		voteContract("VetoVoters", impl.VetoVoters),
		dictator,
		voteContract("DualVote", impl.DualVote),
		voteContract("IsProper", impl.IsProper),
		voteContract("IsStrong", impl.IsStrong),
		table,
	}
}

// drawWith returns a Vote and behind it what a function returns for it.
func drawWith(more func(r *rand.Rand, v impl.Vote) []any) func(r *rand.Rand) []any {
	return func(r *rand.Rand) []any {
		_, v := drawVoters(r)
		return append([]any{v}, more(r, v)...)
	}
}

func badVoters() []any { return values(-1, 3, 4, 8, 64, math.MinInt, math.MaxInt) }

// voterContracts returns those of the functions of a Vote and of voters, sets and orders of it.
func voterContracts() []contract {
	none := values(notVotes()...)
	eight := voteOf(8, slices.Repeat([]int{1}, 8)...)
	return []contract{
		{
			name: "WinsWith", f: impl.WinsWith, valid: []any{threeVoters(), roomy([]int{0, 2}, 81)},
			wrong:  [][]any{none, intLists([]int{1, 0}, []int{0, 0}, []int{2, 2}, []int{-1, 0}, []int{3}, []int{0, 3}, []int{0, 1, 2, 3}, []int{math.MinInt}, []int{math.MaxInt}, make([]int, 100))},
			misfit: [][]any{{impl.Vote{}, []int{}}, {voteOf(1, 1), []int{1}}, {eight, []int{8}}, {eight, []int{0, 1, 2, 3, 4, 5, 6, 7, 8}}},
			draw:   drawWith(func(r *rand.Rand, v impl.Vote) []any { return drawSet(r, len(v.Weights)) }),
		},
		{
			name: "PivotalVoter", f: impl.PivotalVoter, valid: []any{threeVoters(), roomy([]int{2, 0, 1}, 82)},
			wrong:  [][]any{none, intLists(nil, []int{0}, []int{0, 1}, []int{0, 0, 1}, []int{0, 1, 3}, []int{-1, 0, 1}, []int{0, 1, 2, 0}, []int{0, 1, 2, 3}, []int{0, 1, math.MaxInt}, make([]int, 100))},
			misfit: [][]any{{impl.Vote{}, []int{}}, {voteOf(1, 1), []int{1}}, {voteOf(1, 1), []int{}}, {eight, []int{0, 1, 2, 3, 4, 5, 6, 6}}},
			draw:   drawWith(func(r *rand.Rand, v impl.Vote) []any { return drawOrder(r, len(v.Weights)) }),
		},
		{
			name: "MergeVoters", f: impl.MergeVoters, valid: []any{threeVoters(), 2, 0}, wrong: [][]any{none, append(badVoters(), 0), append(badVoters(), 2)},
			misfit: [][]any{{voteOf(1, 1), 0, 0}, {voteOf(3, 20, 1), 0, 1}, {voteOf(1, 1), 0, 1}, {impl.Vote{}, 0, 1}},
			draw: drawWith(func(r *rand.Rand, v impl.Vote) []any {
				return []any{r.Intn(len(v.Weights)), r.Intn(len(v.Weights))}
			}),
		},
		{
			name: "SplitVoter", f: impl.SplitVoter, valid: []any{threeVoters(), 1, 2},
			wrong:  [][]any{append(values(notVotes()...), eight), badVoters(), values(-1, 3, 21, math.MinInt, math.MaxInt)},
			misfit: [][]any{{threeVoters(), 2, 2}, {impl.Vote{}, 0, 0}, {eight, 0, 0}, {eight, 7, 1}},
			draw: drawWith(func(r *rand.Rand, v impl.Vote) []any {
				return []any{r.Intn(len(v.Weights)), r.Intn(12)}
			}),
		},
		{
			name: "QuotaSwings", f: impl.QuotaSwings, valid: []any{threeVoters(), 2}, wrong: [][]any{none, badVoters()}, misfit: [][]any{{impl.Vote{}, 0}, {voteOf(1, 1), 1}},
			draw: drawWith(func(r *rand.Rand, v impl.Vote) []any { return []any{r.Intn(len(v.Weights)+2) - 1} }),
		},
	}
}

// pairContracts returns those of the functions of two Votes.
func pairContracts() []contract {
	none := values(notVotes()...)
	others := values(voteOf(1, 1), voteOf(2, 1, 1), voteOf(2, 1, 1, 1, 1), voteOf(8, slices.Repeat([]int{1}, 8)...))
	draw := func(most int) func(r *rand.Rand) []any {
		return func(r *rand.Rand) []any {
			n := 1 + r.Intn(most)
			return []any{roomyVote(drawVote(r, n, 3)), roomyVote(drawVote(r, 1+(n-1+r.Intn(5)/4)%most, 3))}
		}
	}
	valid := []any{threeVoters(), dictated()}
	wrong := [][]any{slices.Concat(others, none), slices.Concat(others, none)}
	misfit := [][]any{{impl.Vote{}, impl.Vote{}}, {voteOf(0, 1), voteOf(0, 1)}, {voteOf(1, 1), voteOf(1, 1, 0)}}
	both := contract{name: "BothTable", f: impl.BothTable, valid: valid, wrong: wrong, misfit: misfit, draw: draw(5)}
	for _, v := range manyVoters() {
		both = withMisfits(both, []any{v, v})
	}
	return []contract{{name: "SameWins", f: impl.SameWins, valid: valid, wrong: wrong, misfit: misfit, draw: draw(8)}, both}
}

// gameContracts returns those of the functions of a number of bits and a table, which fail for no bits.
func gameContracts() []contract {
	noBits := [][]any{{0, []int{0}}, {0, []int{1}}, {-1, []int{0, 1}}}
	noGames := [][]any{{2, oddTable()}, {1, []int{0, 0}}, {1, []int{1, 1}}, {1, []int{1, 0}}, {4, make([]int, 16)}}
	_, parted := tableOfText("0000011101110111") // a game that is not weighted
	game := withMisfits(tableContract("IsGame", impl.IsGame), noBits...)
	weighted := withMisfits(tableContract("IsWeighted", impl.IsWeighted), slices.Concat(noBits, noGames)...)
	vote := withMisfits(tableContract("VoteOf", impl.VoteOf), slices.Concat(noBits, noGames, [][]any{{4, parted}})...)
	drawGame := func(r *rand.Rand) []any {
		n := 1 + r.Intn(4)
		table := voteTableBy(drawVote(r, n, 3))
		if r.Intn(4) == 0 {
			table[r.Intn(len(table))] ^= 1
		}
		return []any{n, roomy(table, 83)}
	}
	weighted.draw, vote.draw = drawGame, drawGame
	return []contract{game, weighted, vote}
}

func allVoteContracts() []contract {
	return slices.Concat(voteContracts(), voterContracts(), pairContracts(), gameContracts())
}

// Promise 13: each function fails for each argument that is not valid, with zero values.
func TestFunctionsOfVotesFail(t *testing.T) {
	for _, c := range allVoteContracts() {
		checkContract(t, c)
	}
}

// Promise 13: each function returns, and the same again, changes no argument, and has results in
// memory of their own.
func TestFunctionsOfVotesAreTotal(t *testing.T) {
	for i, c := range allVoteContracts() {
		checkDraws(t, c, int64(340+i), 400)
	}
}

// The functions of a Vote do not fail for those of one voter and of the most voters, with the least
// and the greatest weights and Quotas.
func TestFunctionsOfVotesOfFewAndManyVoters(t *testing.T) {
	for n := 1; n <= 8; n++ {
		for _, v := range []impl.Vote{
			voteOf(1, slices.Repeat([]int{20}, n)...), voteOf(20*n, slices.Repeat([]int{20}, n)...), voteOf(1, append(make([]int, n-1), 1)...), voteOf(20, append(make([]int, n-1), 20)...),
		} {
			for _, c := range voteContracts() {
				want := (c.name != "VoteTable" || n <= 4) && (c.name != "DictatorOf" || len(dictatorsBy(v)) == 1)
				if done := checkCall(t, c.name, c.f, []any{roomyVote(v)}); done != want {
					t.Errorf("%s of %v: %v", c.name, v, done)
				}
			}
		}
	}
}
