package tests

import (
	"math/rand"
	"slices"
	"testing"

	"loop.example/g01135/impl"
)

// eachMade calls a function with all tables of at most 3 bits and many of 4.
func eachMade(seed int64, call func(n int, table []int)) {
	eachTable(0, 3, call)
	r := rand.New(rand.NewSource(seed))
	for range 1000 {
		call(4, tableOf(4, r.Intn(1<<16)))
	}
	for text := range 16 { // those with a single one
		call(4, tableOf(4, 1<<text))
	}
}

// checkMade checks a table that a function made of n bits.
func checkMade(t *testing.T, name string, n int, made []int, ok bool, want func(x []int) int) {
	t.Helper()
	if !ok || len(made) != 1<<n || !impl.IsTable(n, made) {
		t.Fatalf("%s: %v, %v", name, made, ok)
	}
	for k := range made {
		if made[k] != want(digits(k, 2, n)) {
			t.Fatalf("%s: %v has %d at %d", name, made, made[k], k)
		}
	}
}

func TestMadeTables(t *testing.T) {
	for _, c := range []struct {
		name string
		want string
		made func() ([]int, bool)
	}{
		{"dual of and", "0111", func() ([]int, bool) { return impl.DualTable(2, []int{0, 0, 0, 1}) }},
		{"dual of a bit", "0101", func() ([]int, bool) { return impl.DualTable(2, []int{0, 1, 0, 1}) }},
		{"dual of 0", "1", func() ([]int, bool) { return impl.DualTable(0, []int{0}) }},
		{"dual of 1", "0", func() ([]int, bool) { return impl.DualTable(0, []int{1}) }},
		{"dual of no ones", "11", func() ([]int, bool) { return impl.DualTable(1, []int{0, 0}) }},
		{"dual of or", "0001", func() ([]int, bool) { return impl.DualTable(2, []int{0, 1, 1, 1}) }},
		{"flip of the first bit", "0010", func() ([]int, bool) { return impl.FlipBits(2, []int{0, 0, 0, 1}, []int{0}) }},
		{"flip of the last bit", "0100", func() ([]int, bool) { return impl.FlipBits(2, []int{0, 0, 0, 1}, []int{1}) }},
		{"flip of both bits", "1000", func() ([]int, bool) { return impl.FlipBits(2, []int{0, 0, 0, 1}, []int{0, 1}) }},
		{"flip of none", "0001", func() ([]int, bool) { return impl.FlipBits(2, []int{0, 0, 0, 1}, nil) }},
		{"flip of no bits", "1", func() ([]int, bool) { return impl.FlipBits(0, []int{1}, []int{}) }},
		{"order of no bits", "1", func() ([]int, bool) { return impl.PermuteBits(0, []int{1}, nil) }},
		{"order 0 1", "0100", func() ([]int, bool) { return impl.PermuteBits(2, []int{0, 1, 0, 0}, []int{0, 1}) }},
		{"order 1 0", "0010", func() ([]int, bool) { return impl.PermuteBits(2, []int{0, 1, 0, 0}, []int{1, 0}) }},
		// The place 1 has the bit 0 alone, which is to[2] in one of these orders, and to[1] in the other one.
		{"order 1 2 0", "00001000", func() ([]int, bool) { return impl.PermuteBits(3, []int{0, 1, 0, 0, 0, 0, 0, 0}, []int{1, 2, 0}) }},
		{"order 2 0 1", "00100000", func() ([]int, bool) { return impl.PermuteBits(3, []int{0, 1, 0, 0, 0, 0, 0, 0}, []int{2, 0, 1}) }},
		{"first bit 1", "01", func() ([]int, bool) { return impl.RestrictBit(2, []int{0, 0, 0, 1}, 0, 1) }},
		{"first bit 0", "00", func() ([]int, bool) { return impl.RestrictBit(2, []int{0, 1, 0, 1}, 0, 0) }},
		{"last bit 0", "01", func() ([]int, bool) { return impl.RestrictBit(2, []int{0, 1, 0, 0}, 1, 0) }},
		{"last bit 1", "00", func() ([]int, bool) { return impl.RestrictBit(2, []int{0, 1, 0, 0}, 1, 1) }},
		{"middle bit 1", "0110", func() ([]int, bool) { return impl.RestrictBit(3, []int{1, 1, 0, 1, 1, 1, 1, 0}, 1, 1) }},
		{"single bit 1", "1", func() ([]int, bool) { return impl.RestrictBit(1, []int{0, 1}, 0, 1) }},
		{"single bit 0", "0", func() ([]int, bool) { return impl.RestrictBit(1, []int{0, 1}, 0, 0) }},
		{"joined", "0001", func() ([]int, bool) { return impl.JoinTables(1, []int{0, 0}, []int{0, 1}) }},
		{"joined without bits", "10", func() ([]int, bool) { return impl.JoinTables(0, []int{1}, []int{0}) }},
	} {
		_, want := tableOfText(c.want)
		if made, ok := c.made(); !ok || !slices.Equal(made, want) {
			t.Errorf("%s: %v, %v, not %v", c.name, made, ok, want)
		}
	}
}

func TestDualTable(t *testing.T) {
	eachMade(210, func(n int, table []int) {
		dual, ok := impl.DualTable(n, table)
		checkMade(t, "dual", n, dual, ok, func(x []int) int { return 1 - table[placeBy(complementBy(x))] })
		if twice, ok := impl.DualTable(n, dual); !ok || !slices.Equal(twice, table) {
			t.Fatalf("%v: %v, and its dual %v, %v", table, dual, twice, ok)
		}
	})
}

func TestFlipBits(t *testing.T) {
	eachMade(211, func(n int, table []int) {
		for _, set := range setsOf(n, n) {
			flipped, ok := impl.FlipBits(n, table, set)
			checkMade(t, "flipped", n, flipped, ok, func(x []int) int {
				for _, bit := range set {
					x[bit] = 1 - x[bit]
				}
				return table[placeBy(x)]
			})
			if twice, ok := impl.FlipBits(n, flipped, set); !ok || !slices.Equal(twice, table) {
				t.Fatalf("%v: %v, and flipped again %v, %v", table, flipped, twice, ok)
			}
		}
	})
}

func TestPermuteBits(t *testing.T) {
	eachMade(212, func(n int, table []int) {
		for _, to := range ordersOf(n) {
			moved, ok := impl.PermuteBits(n, table, to)
			checkMade(t, "moved", n, moved, ok, func(x []int) int {
				y := make([]int, n)
				for i, bit := range to {
					y[bit] = x[i]
				}
				return table[placeBy(y)]
			})
			back := make([]int, n)
			for i, bit := range to {
				back[bit] = i
			}
			if twice, ok := impl.PermuteBits(n, moved, back); !ok || !slices.Equal(twice, table) {
				t.Fatalf("%v: %v, and moved back %v, %v", table, moved, twice, ok)
			}
		}
	})
}

func TestRestrictBit(t *testing.T) {
	eachMade(213, func(n int, table []int) {
		for bit := range n {
			for value := range 2 {
				less, ok := impl.RestrictBit(n, table, bit, value)
				checkMade(t, "less", n-1, less, ok, func(x []int) int {
					return table[placeBy(slices.Insert(x, bit, value))]
				})
			}
		}
		if n == 0 {
			return
		}
		zero, one := impl.RestrictBit(n, table, n-1, 0)
		other, two := impl.RestrictBit(n, table, n-1, 1)
		joined, three := impl.JoinTables(n-1, zero, other)
		if !one || !two || !three || !slices.Equal(joined, table) {
			t.Fatalf("%v: %v, %v; %v, %v; %v, %v", table, zero, one, other, two, joined, three)
		}
	})
}

// All pairs of tables of at most 3 bits can be joined, and none of 4 bits.
func TestJoinTables(t *testing.T) {
	eachTable(0, 3, func(n int, zero []int) {
		eachTable(n, n, func(_ int, one []int) {
			joined, ok := impl.JoinTables(n, zero, one)
			if !ok || !slices.Equal(joined, append(slices.Clone(zero), one...)) {
				t.Fatalf("%v, %v: %v, %v", zero, one, joined, ok)
			}
		})
		if made, ok := impl.JoinTables(n, zero, zero); !ok || sharesMemory(resultsOf(made), []any{zero}) {
			t.Fatalf("%v: %v, %v", zero, made, ok)
		}
	})
	for number := range 1 << 16 {
		table := tableOf(4, number)
		if joined, ok := impl.JoinTables(4, table, table); ok || len(joined) > 0 {
			t.Fatalf("%v: %v, %v", table, joined, ok)
		}
	}
}

// checkStill checks that a table that was made of another one is a threshold table if that was
// one, and has a trade if not.
func checkStill(t *testing.T, name string, n int, made []int, ok bool, was bool) {
	t.Helper()
	is, fine := impl.IsThreshold(n, made)
	trade, traded := impl.FindTrade(n, made)
	if !ok || !fine || is != was || traded == was {
		t.Fatalf("%s: %v, %v; %v, %v; %v, %v", name, made, ok, is, fine, trade, traded)
	}
}

// Promise 5: what is made of a threshold table by DualTable, FlipBits and PermuteBits is one, and
// of another one is none, because the table is made of that again.
func TestMadeTablesAreThresholdTablesAsBefore(t *testing.T) {
	r := rand.New(rand.NewSource(214))
	eachTable(0, 4, func(n int, table []int) {
		was, _ := impl.IsThreshold(n, table)
		if n == 4 && !was && r.Intn(50) > 0 {
			return
		}
		dual, ok := impl.DualTable(n, table)
		checkStill(t, "dual", n, dual, ok, was)
		for _, set := range setsOf(n, n) {
			flipped, ok := impl.FlipBits(n, table, set)
			checkStill(t, "flipped", n, flipped, ok, was)
		}
		for _, to := range ordersOf(n) {
			moved, ok := impl.PermuteBits(n, table, to)
			checkStill(t, "moved", n, moved, ok, was)
		}
	})
}

// Promise 5: what is made of a threshold table by RestrictBit is one, with no greater size.
func TestRestrictedTablesAreThresholdTables(t *testing.T) {
	eachTable(1, 4, func(n int, table []int) {
		if is, _ := impl.IsThreshold(n, table); !is {
			return
		}
		size, _ := impl.SizeOf(n, table)
		for bit := range n {
			for value := range 2 {
				less, ok := impl.RestrictBit(n, table, bit, value)
				checkStill(t, "less", n-1, less, ok, true)
				if small, ok := impl.SizeOf(n-1, less); !ok || small > size {
					t.Fatalf("%v has the size %d, %v the size %d, %v", table, size, less, small, ok)
				}
			}
		}
	})
}

// The size is kept by DualTable, FlipBits and PermuteBits; the signs and the influences are those
// of the bits that were flipped or moved.
func TestNumbersOfMadeTables(t *testing.T) {
	r := rand.New(rand.NewSource(215))
	for range 400 {
		n := 1 + r.Intn(4)
		table, _ := impl.PlaneTable(randomPlane(r, n, 3))
		size, _ := impl.SizeOf(n, table)
		signs, _ := impl.BitSigns(n, table)
		moves, _ := impl.InfluencesOf(n, table)
		same := func(name string, made []int, wantSigns, wantMoves []int) {
			t.Helper()
			other, one := impl.SizeOf(n, made)
			newSigns, two := impl.BitSigns(n, made)
			newMoves, three := impl.InfluencesOf(n, made)
			if !one || !two || !three || other != size || !slices.Equal(newSigns, wantSigns) || !slices.Equal(newMoves, wantMoves) {
				t.Fatalf("%s of %v: %v: %d and %d, %v and %v, %v and %v", name, table, made, size, other, wantSigns, newSigns, wantMoves, newMoves)
			}
		}
		dual, _ := impl.DualTable(n, table)
		same("dual", dual, signs, moves)
		sets, orders := setsOf(n, n), ordersOf(n)
		set, to := sets[r.Intn(len(sets))], orders[r.Intn(len(orders))]
		flipped, _ := impl.FlipBits(n, table, set)
		other := slices.Clone(signs)
		for _, bit := range set {
			other[bit] *= -1
		}
		same("flipped", flipped, other, moves)
		moved, _ := impl.PermuteBits(n, table, to)
		newSigns, newMoves := []int{}, []int{}
		for _, bit := range to {
			newSigns = append(newSigns, signs[bit])
			newMoves = append(newMoves, moves[bit])
		}
		same("moved", moved, newSigns, newMoves)
	}
}
