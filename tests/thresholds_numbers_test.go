package tests

import (
	"fmt"
	"math/rand"
	"slices"
	"testing"

	"loop.example/g01135/impl"
)

func TestNumbersOfTables(t *testing.T) {
	for _, c := range []struct {
		text               string
		chow, signs, moves []int // no signs if the table is not unate
	}{
		{"0", []int{0}, []int{}, []int{}}, {"1", []int{1}, []int{}, []int{}},
		{"00", []int{0, 0}, []int{0}, []int{0}}, {"11", []int{2, 1}, []int{0}, []int{0}},
		{"01", []int{1, 1}, []int{1}, []int{1}}, {"10", []int{1, 0}, []int{-1}, []int{1}},
		{"0001", []int{1, 1, 1}, []int{1, 1}, []int{1, 1}}, {"1110", []int{3, 1, 1}, []int{-1, -1}, []int{1, 1}},
		{"0100", []int{1, 1, 0}, []int{1, -1}, []int{1, 1}}, {"0101", []int{2, 2, 1}, []int{1, 0}, []int{2, 0}},
		{"1100", []int{2, 1, 0}, []int{0, -1}, []int{0, 2}}, {"0110", []int{2, 1, 1}, nil, []int{2, 2}},
		{"1001", []int{2, 1, 1}, nil, []int{2, 2}}, {"00010111", []int{4, 3, 3, 3}, []int{1, 1, 1}, []int{2, 2, 2}},
		{"01101001", []int{4, 2, 2, 2}, nil, []int{4, 4, 4}}, {"01010011", []int{4, 3, 3, 2}, nil, []int{2, 2, 2}},
		{"0001000100011110", []int{6, 4, 4, 4, 4}, nil, []int{4, 4, 4, 4}},
		{"0001000100011111", []int{7, 5, 5, 5, 5}, []int{1, 1, 1, 1}, []int{3, 3, 3, 3}},
		{"0000000011111111", []int{8, 4, 4, 4, 8}, []int{0, 0, 0, 1}, []int{0, 0, 0, 8}},
	} {
		n, table := tableOfText(c.text)
		chow, one := impl.ChowNumbers(n, table)
		signs, two := impl.BitSigns(n, table)
		moves, three := impl.InfluencesOf(n, table)
		if !one || !slices.Equal(chow, c.chow) || !three || !slices.Equal(moves, c.moves) {
			t.Errorf("%s: %v, %v; %v, %v", c.text, chow, one, moves, three)
		}
		if two != (c.signs != nil) || !slices.Equal(signs, c.signs) {
			t.Errorf("%s: the signs %v, %v", c.text, signs, two)
		}
	}
}

// signsBy returns by the document's definition the signs of bits, and whether the table is unate.
func signsBy(kinds []bitKind) ([]int, bool) {
	signs := []int{}
	for _, kind := range kinds {
		switch {
		case kind.rising && kind.falling:
			signs = append(signs, 0)
		case kind.rising:
			signs = append(signs, 1)
		case kind.falling:
			signs = append(signs, -1)
		default:
			return nil, false
		}
	}
	return signs, true
}

// chowBy returns the Chow numbers by the document's definition.
func chowBy(n int, table []int) []int {
	numbers := make([]int, 1+n)
	for k, bit := range table {
		numbers[0] += bit
		for i, digit := range bitPoints()[k][:n] {
			numbers[1+i] += bit * digit
		}
	}
	return numbers
}

// The numbers of all tables are those of the document; threshold tables are unate; and in a
// rising bit, the influence is 2 times its Chow number less the number of ones.
func TestNumbersOfAllTables(t *testing.T) {
	for n := range 5 {
		edges := allEdges(n)
		eachTable(n, n, func(n int, table []int) {
			kinds := bitKinds(table, edges)
			want, unate := signsBy(kinds)
			chow, one := impl.ChowNumbers(n, table)
			signs, two := impl.BitSigns(n, table)
			moves, three := impl.InfluencesOf(n, table)
			if !one || !slices.Equal(chow, chowBy(n, table)) || two != unate || !slices.Equal(signs, want) || !three || len(moves) != n {
				t.Fatalf("%v: %v, %v; %v, %v; %v, %v", table, chow, one, signs, two, moves, three)
			}
			for i, kind := range kinds {
				if moves[i] != kind.influence || kind.rising && moves[i] != 2*chow[1+i]-chow[0] {
					t.Fatalf("%v: %v, %v, not %v", table, moves, chow, kinds)
				}
			}
			if is, _ := impl.IsThreshold(n, table); is && !two {
				t.Fatalf("%v is a threshold table, but not unate", table)
			}
		})
	}
}

// Promise 5: no other table has the Chow numbers of a threshold table; some others share theirs.
func TestChowNumbersTellThresholdTables(t *testing.T) {
	for n := range 5 {
		tables := map[string]int{}
		eachTable(n, n, func(n int, table []int) {
			chow, _ := impl.ChowNumbers(n, table)
			tables[fmt.Sprint(chow)]++
		})
		shared := 0
		eachTable(n, n, func(n int, table []int) {
			chow, _ := impl.ChowNumbers(n, table)
			is, _ := impl.IsThreshold(n, table)
			if count := tables[fmt.Sprint(chow)]; is && count != 1 {
				t.Fatalf("%v has the Chow numbers %v of %d tables", table, chow, count)
			} else if count > 1 {
				shared++
			}
		})
		if n >= 2 && shared == 0 {
			t.Errorf("%d bits: no two tables have the same Chow numbers", n)
		}
	}
}

// checkSigns checks that Weights have the signs of the bits of their table, where these are not 0.
func checkSigns(t *testing.T, weights, table []int) []int {
	t.Helper()
	signs, ok := impl.BitSigns(len(weights), table)
	if !ok || len(signs) != len(weights) {
		t.Fatalf("%v: %v, %v", table, signs, ok)
	}
	for i, sign := range signs {
		if sign != 0 && sign*weights[i] <= 0 {
			t.Fatalf("%v: the Weights %v, the signs %v", table, weights, signs)
		}
	}
	return signs
}

// All Weights have the signs of the bits; those of the least Plane are 0 where a bit never matters.
func TestWeightsHaveTheSignsOfTheBits(t *testing.T) {
	without := 0
	eachTable(1, 4, func(n int, table []int) {
		p, ok := impl.LeastPlane(n, table)
		if !ok {
			return
		}
		for i, sign := range checkSigns(t, p.Weights, table) {
			if sign == 0 {
				without++
				if p.Weights[i] != 0 {
					t.Fatalf("%v: %v, but the bit %d never matters", table, p, i)
				}
			}
		}
	})
	if without != 2+8+42+416 { // in the threshold tables of 1, 2, 3 and 4 bits
		t.Error(without, "bits never matter")
	}
	r := rand.New(rand.NewSource(204))
	for i := range 4000 {
		p := randomPlane(r, 1+i%4, []int{1, 3, 9, 99}[r.Intn(4)])
		table, _ := impl.PlaneTable(p)
		checkSigns(t, p.Weights, table)
	}
}

// The influence of a bit that never matters is 0, both its restrictions are the same, and the
// table stays as it is when the bit is flipped.
func TestBitsThatNeverMatter(t *testing.T) {
	count := 0
	eachTable(1, 4, func(n int, table []int) {
		moves, _ := impl.InfluencesOf(n, table)
		for bit, influence := range moves {
			zero, one := impl.RestrictBit(n, table, bit, 0)
			other, two := impl.RestrictBit(n, table, bit, 1)
			flipped, three := impl.FlipBits(n, table, []int{bit})
			never := influence == 0
			if !one || !two || !three || slices.Equal(zero, other) != never || slices.Equal(flipped, table) != never {
				t.Fatalf("%v, bit %d: %d; %v and %v; %v", table, bit, influence, zero, other, flipped)
			}
			if !never {
				continue
			}
			count++
			before, one := impl.SizeOf(n, table)
			behind, two := impl.SizeOf(n-1, zero)
			if one != two || before != behind {
				t.Fatalf("%v has the size %d, %v; %v without bit %d %d, %v", table, before, one, zero, bit, behind, two)
			}
		}
	})
	if count < 1000 {
		t.Error("only", count)
	}
}
