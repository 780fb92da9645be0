package tests

import (
	"math"
	"math/rand"
	"slices"
	"testing"

	"loop.example/g01135/impl"
)

// badBitCounts are numbers of bits that do not suit a table of 2 bits.
func badBitCounts() []any {
	return values(-1, 0, 1, 3, 4, 5, 62, 63, 64, 65, -64, math.MinInt, math.MaxInt)
}

func intLists(all ...[]int) []any { return values(all...) }

// notTables are no tables of 2 bits.
func notTables() []any {
	return intLists(nil, []int{}, []int{0}, []int{0, 1}, []int{0, 0, 0}, []int{0, 0, 0, 1, 1}, make([]int, 8), make([]int, 16), make([]int, 1000),
		[]int{2, 0, 0, 1}, []int{0, 0, 0, -1}, []int{0, math.MaxInt, 0, 1}, []int{0, 0, math.MinInt, 1})
}

// andTable returns a threshold table of 2 bits, and oddTable one that is none and not unate.
func andTable() []int { return roomy([]int{0, 0, 0, 1}, 66) }
func oddTable() []int { return roomy([]int{0, 1, 1, 0}, 67) }

// drawTable returns a number of bits, which may be one too many, and a table: one of a Plane or any
// one.
func drawTable(r *rand.Rand) (int, []int) {
	n := r.Intn(6)
	table := tableOf(n, r.Int())
	if r.Intn(2) == 0 && n > 0 && n <= 4 {
		table, _ = impl.PlaneTable(randomPlane(r, n, 3))
	}
	return n, roomy(slices.Clone(table), 68)
}

func drawTables(r *rand.Rand) []any {
	n, table := drawTable(r)
	return []any{n, table}
}

// tableContract returns that of a function of a number of bits and a table alone, which does not
// fail for a threshold table of 2 bits.
func tableContract(name string, f any) contract {
	return contract{
		name: name, f: f, valid: []any{2, andTable()}, wrong: [][]any{badBitCounts(), notTables()}, draw: drawTables,
		misfit: [][]any{{0, []int{}}, {-1, []int{}}, {0, []int{2}}, {5, make([]int, 32)}, {6, make([]int, 64)}, {1, []int{0, 2}}, {4, make([]int, 15)}},
	}
}

// withMisfits returns a contract with more misfits.
func withMisfits(c contract, more ...[]any) contract {
	c.misfit = slices.Concat(c.misfit, more)
	return c
}

// wholeContracts returns those of the functions of a number of bits and a table.
func wholeContracts() []contract {
	odd := []any{2, oddTable()}
	trade := tableContract("FindTrade", impl.FindTrade)
	trade.valid = odd
	trade.misfit = append(trade.misfit, []any{2, andTable()}, []any{0, []int{0}}, []any{0, []int{1}}, []any{1, []int{1, 0}}, []any{4, make([]int, 16)})
	return []contract{
		tableContract("IsTable", impl.IsTable),
		tableContract("IsThreshold", impl.IsThreshold),
		withMisfits(tableContract("LeastPlane", impl.LeastPlane), odd, []any{0, []int{0}}, []any{0, []int{1}}),
		withMisfits(tableContract("SizeOf", impl.SizeOf), odd),
		trade,
		tableContract("ChowNumbers", impl.ChowNumbers),
		withMisfits(tableContract("BitSigns", impl.BitSigns), odd),
		tableContract("InfluencesOf", impl.InfluencesOf),
		tableContract("DualTable", impl.DualTable),
	}
}

// drawChange returns a table and behind it what a function returns for its number of bits.
func drawChange(more func(r *rand.Rand, n int) []any) func(r *rand.Rand) []any {
	return func(r *rand.Rand) []any {
		n, table := drawTable(r)
		return append([]any{n, table}, more(r, n)...)
	}
}

// drawSet returns a set of bits, to which sometimes some others are added.
func drawSet(r *rand.Rand, n int) []any {
	sets := setsOf(n, n)
	set := slices.Clone(sets[r.Intn(len(sets))])
	if r.Intn(6) == 0 {
		set = append(set, r.Intn(7)-1)
	}
	return []any{roomy(set, 69)}
}

func drawOrder(r *rand.Rand, n int) []any {
	to := r.Perm(n)
	if r.Intn(6) == 0 {
		to = randomList(r, n, 3)
	}
	return []any{roomy(to, 70)}
}

// changeContracts returns those of the functions that have more arguments than a table.
func changeContracts() []contract {
	two := []int{0, 1}
	wrong := func(others ...[]any) [][]any { return append([][]any{badBitCounts(), notTables()}, others...) }
	return []contract{
		{
			name: "IsTrade", f: impl.IsTrade, valid: []any{2, oddTable(), roomy([]int{1, 2, 0, 3}, 71)}, wrong: wrong(nil),
			misfit: [][]any{{-1, []int{}, []int{}}, {5, make([]int, 32), []int{1, 2, 0, 3}}},
			draw: drawChange(func(r *rand.Rand, n int) []any {
				return []any{roomy(randomList(r, []int{4, 4, 4, r.Intn(9)}[r.Intn(4)], 1<<n), 72)}
			}),
		},
		{
			name: "FlipBits", f: impl.FlipBits, valid: []any{2, andTable(), roomy(two, 73)}, draw: drawChange(drawSet),
			wrong:  wrong(intLists([]int{1, 0}, []int{0, 0}, []int{1, 1}, []int{0, 1, 1}, []int{0, 2}, []int{-1, 0}, []int{2}, []int{-1}, []int{math.MaxInt}, []int{math.MinInt, 0}, []int{0, 1, 2})),
			misfit: [][]any{{0, []int{1}, []int{0}}, {4, make([]int, 16), []int{0, 1, 2, 3, 4}}, {4, make([]int, 16), []int{4}}, {1, two, []int{1}}},
		},
		{
			name: "PermuteBits", f: impl.PermuteBits, valid: []any{2, andTable(), roomy([]int{1, 0}, 74)}, draw: drawChange(drawOrder),
			wrong:  wrong(intLists(nil, []int{0}, []int{1}, []int{0, 0}, []int{1, 1}, []int{0, 2}, []int{-1, 0}, []int{0, 1, 2}, []int{0, 1, 0}, []int{0, math.MaxInt}, []int{math.MinInt, 1}, make([]int, 100))),
			misfit: [][]any{{0, []int{1}, []int{0}}, {1, two, []int{1}}, {3, make([]int, 8), []int{0, 1, 1}}, {3, make([]int, 8), []int{0, 2, 2}}, {4, make([]int, 16), []int{3, 2, 1}}},
		},
		{
			name: "RestrictBit", f: impl.RestrictBit, valid: []any{2, andTable(), 1, 1},
			wrong:  wrong(values(-1, 2, 3, 63, 64, math.MinInt, math.MaxInt), badBits()),
			misfit: [][]any{{0, []int{1}, 0, 0}, {0, []int{1}, -1, 1}, {1, two, 1, 0}, {4, make([]int, 16), 4, 0}},
			draw:   drawChange(func(r *rand.Rand, n int) []any { return []any{r.Intn(n+2) - 1, r.Intn(3)} }),
		},
		{
			name: "JoinTables", f: impl.JoinTables, valid: []any{2, andTable(), oddTable()}, wrong: wrong(notTables()),
			misfit: [][]any{
				{4, make([]int, 16), make([]int, 16)}, {5, make([]int, 32), make([]int, 32)}, {-1, []int{}, []int{}}, {-1, []int{0}, []int{0}},
				{0, []int{0}, []int{}}, {0, []int{0, 1}, []int{}}, {1, two, []int{0}}, {math.MaxInt, []int{}, []int{}},
			},
			draw: drawChange(func(r *rand.Rand, n int) []any { return []any{roomy(tableOf(n, r.Int()), 75)} }),
		},
		{
			name: "CountThresholds", f: impl.CountThresholds, valid: []any{4}, wrong: [][]any{values(-1, 5, 6, -4, 64, math.MinInt, math.MaxInt)},
			draw: func(r *rand.Rand) []any { return []any{r.Intn(6) - 1} },
		},
	}
}

func thresholdContracts() []contract { return slices.Concat(wholeContracts(), changeContracts()) }

// Promise 13: each function fails for each argument that is not valid, with zero values.
func TestFunctionsOfThresholdsFail(t *testing.T) {
	for _, c := range thresholdContracts() {
		checkContract(t, c)
	}
}

// Promise 13: each function returns, and the same again, changes no argument, and has results in
// memory of their own.
func TestFunctionsOfThresholdsAreTotal(t *testing.T) {
	for i, c := range thresholdContracts() {
		checkDraws(t, c, int64(220+i), 600)
	}
}

// The functions do not fail for the tables of the fewest and of the most bits, without ones and of
// ones alone, and keep what they are given.
func TestFunctionsOfThresholdsForAllNumbersOfBits(t *testing.T) {
	for n := range 5 {
		for _, bit := range []int{0, 1} {
			table := roomy(slices.Repeat([]int{bit}, 1<<n), 76)
			for _, c := range wholeContracts() {
				want := c.name != "FindTrade" && (c.name != "LeastPlane" || n > 0)
				if done := checkCall(t, c.name, c.f, []any{n, table}); done != want {
					t.Errorf("%s of %v: %v", c.name, table, done)
				}
			}
			all := []int{}
			for bit := range n {
				all = append(all, bit)
			}
			calls := map[string]bool{
				"FlipBits":    checkCall(t, "FlipBits", impl.FlipBits, []any{n, table, roomy(all, 77)}),
				"PermuteBits": checkCall(t, "PermuteBits", impl.PermuteBits, []any{n, table, roomy(all, 78)}),
				"IsTrade":     checkCall(t, "IsTrade", impl.IsTrade, []any{n, table, roomy(all, 79)}),
				"JoinTables":  n == 4 || checkCall(t, "JoinTables", impl.JoinTables, []any{n, table, table}),
				"RestrictBit": n == 0 || checkCall(t, "RestrictBit", impl.RestrictBit, []any{n, table, n - 1, bit}),
			}
			for name, done := range calls {
				if !done {
					t.Errorf("%s fails for %v", name, table)
				}
			}
		}
	}
}
