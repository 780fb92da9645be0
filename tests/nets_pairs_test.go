package tests

import (
	"fmt"
	"math"
	"math/rand"
	"slices"
	"testing"

	"loop.example/g01135/impl"
)

// tablesOfTexts returns the tables with the digits of some texts.
func tablesOfTexts(texts ...string) [][]int {
	tables := [][]int{}
	for _, text := range texts {
		_, table := tableOfText(text)
		tables = append(tables, table)
	}
	return tables
}

// oddTables returns tables of 1 up to 3 bits that have no pair.
func oddTables() [][]int { return tablesOfTexts("01101001", "10010110") }

func TestFindPair(t *testing.T) {
	for text, want := range map[string][]string{
		// If the first table has no ones, just the places 0 and 2 of the third one matter. Where the
		// place 1 does not matter, 0 is there, unless this makes a third table that is no threshold table.
		"00": {"00", "00", "0000"}, "11": {"00", "00", "1000"}, "01": {"00", "01", "0010"}, "10": {"00", "01", "1000"},
		"0000": {"0000", "0000", "0000"}, "1111": {"0000", "0000", "1000"}, "0001": {"0000", "0001", "0010"}, "1110": {"0000", "0001", "1000"},
		"0011": {"0000", "0011", "0010"}, "1100": {"0000", "0011", "1000"}, "0110": {"0001", "0111", "0010"}, "1001": {"0001", "0111", "1101"},
		"00000000": {"00000000", "00000000", "0000"}, "11111111": {"00000000", "00000000", "1000"}, "00010111": {"00000000", "00010111", "0010"},
		"11101000": {"00000000", "00010111", "1000"}, "00000110": {"00000001", "00000111", "0010"}, "01100110": {"00010001", "01110111", "0010"},
		"01111110": {"00000001", "01111111", "0010"}, "10000001": {"00000001", "01111111", "1101"},
	} {
		n, table := tableOfText(text)
		pair, ok := impl.FindPair(n, table)
		if !ok || !sameText(pair, tablesOfTexts(want...)) {
			t.Errorf("%s: %v, %v, not %v", text, pair, ok, want)
		}
	}
	for _, table := range oddTables() {
		if pair, ok := impl.FindPair(3, table); ok || len(pair) != 0 {
			t.Errorf("%v: %v", table, pair)
		}
	}
}

// Of all tables of up to 3 bits, just those have a pair that are made of two threshold tables by a
// third one, and FindPair is the first such pair.
func TestPairsAreTheFirstOnes(t *testing.T) {
	eachTable(1, 3, func(n int, table []int) {
		want, has := pairsBy(n)[fmt.Sprint(table)]
		pair, ok := impl.FindPair(n, table)
		if ok != has || !sameText(pair, want) {
			t.Fatalf("%v: %v, %v, not %v", table, pair, ok, want)
		}
		if !ok {
			return
		}
		if made := thirdBy(pair[0], pair[1], pair[2]); !slices.Equal(made, table) {
			t.Fatalf("%v: %v make %v", table, pair, made)
		}
		for i, bits := range []int{n, n, 2} {
			if is, ok := impl.IsThreshold(bits, pair[i]); !ok || !is {
				t.Fatalf("%v: %v is no threshold table", table, pair[i])
			}
		}
	})
}

// There are 4, 14 and 104 threshold tables of 1 up to 3 bits; all others have a pair but for those of
// an even and of an odd sum of 3 bits.
func TestGatesNeeded(t *testing.T) {
	for n, want := range [][3]int{1: {4, 0, 0}, 2: {14, 2, 0}, 3: {104, 150, 2}} {
		count := [3]int{}
		eachTable(n, n, func(n int, table []int) {
			if n == 0 {
				return
			}
			needed, ok := impl.GatesNeeded(n, table)
			if !ok || needed != neededBy(n, table) {
				t.Fatalf("%v: %d, %v, not %d", table, needed, ok, neededBy(n, table))
			}
			count[needed-1]++
			threshold, one := impl.IsThreshold(n, table)
			_, two := impl.FindPair(n, table)
			if !one || threshold != (needed == 1) || two != (needed < 3) {
				t.Fatalf("%v: %d, but %v and %v", table, needed, threshold, two)
			}
		})
		if count != want {
			t.Errorf("%d bits: %v", n, count)
		}
	}
	for _, table := range oddTables() {
		if needed, ok := impl.GatesNeeded(3, table); !ok || needed != 3 {
			t.Errorf("%v: %d, %v", table, needed, ok)
		}
	}
}

// ParityNet of 3 Inputs needs 3 gates, those of fewer Inputs need as many as these are.
func TestGatesOfParityNets(t *testing.T) {
	for n := 1; n <= 3; n++ {
		net, _ := impl.ParityNet(n)
		tables, _ := impl.NetTables(net)
		turned, _ := impl.NegateNet(net)
		others, _ := impl.NetTables(turned)
		one, fine := impl.GatesNeeded(n, tables[0])
		two, ok := impl.GatesNeeded(n, others[0])
		if !fine || !ok || one != n || two != n || len(net.Layers[0]) != n {
			t.Errorf("%d: %d, %v; %d, %v", n, one, fine, two, ok)
		}
	}
}

// No Net with two layers and one gate in the last one has fewer gates in its first layer than its
// table needs, unless these are more than 2: all gates that differ by their tables are tried.
func TestNoFewerGatesAreEnough(t *testing.T) {
	for n := 1; n <= 3; n++ {
		for _, one := range thresholdsBy(n) {
			first, _ := impl.LeastPlane(n, one)
			for _, three := range thresholdsBy(1) {
				last, _ := impl.LeastPlane(1, three)
				checkNeeded(t, netOf(n, gates(first), gates(last)))
			}
		}
	}
	for n := 1; n <= 2; n++ {
		for _, one := range thresholdsBy(n) {
			for _, two := range thresholdsBy(n) {
				first, _ := impl.LeastPlane(n, one)
				second, _ := impl.LeastPlane(n, two)
				for _, three := range thresholdsBy(2) {
					last, _ := impl.LeastPlane(2, three)
					checkNeeded(t, netOf(n, gates(first, second), gates(last)))
				}
			}
		}
	}
	r := rand.New(rand.NewSource(440))
	for range 1000 {
		checkNeeded(t, drawNet(r, 1+r.Intn(3), drawLimit(r), 1+r.Intn(4), 1))
	}
}

// checkNeeded checks that a Net with two layers and one gate in the last one has as many gates in
// the first one as its table needs, unless more than 2 are needed.
func checkNeeded(t *testing.T, net impl.Net) {
	t.Helper()
	tables, one := impl.NetTables(net)
	needed, two := impl.GatesNeeded(net.Inputs, tables[0])
	if !one || !two || needed > len(net.Layers[0]) {
		t.Fatalf("%v has %v, which needs %d gates", net, tables, needed)
	}
}

func TestNetOfPair(t *testing.T) {
	for text, want := range map[string]impl.Net{
		"01":       netOf(1, gates(planeOf(1, 0), planeOf(1, 1)), gates(planeOf(1, -1, 1))),
		"11":       netOf(1, gates(planeOf(1, 0), planeOf(1, 0)), gates(planeOf(0, -1, -1))),
		"0000":     netOf(2, gates(planeOf(1, 0, 0), planeOf(1, 0, 0)), gates(planeOf(1, 0, 0))),
		"0110":     netOf(2, gates(planeOf(2, 1, 1), planeOf(1, 1, 1)), gates(planeOf(1, -1, 1))),
		"1001":     netOf(2, gates(planeOf(2, 1, 1), planeOf(1, 1, 1)), gates(planeOf(0, 1, -1))),
		"00010111": netOf(3, gates(planeOf(1, 0, 0, 0), planeOf(2, 1, 1, 1)), gates(planeOf(1, -1, 1))),
		"01111110": netOf(3, gates(planeOf(3, 1, 1, 1), planeOf(1, 1, 1, 1)), gates(planeOf(1, -1, 1))),
	} {
		n, table := tableOfText(text)
		if net, ok := impl.NetOfPair(n, table); !ok || !sameText(net, want) {
			t.Errorf("%s: %v, %v, not %v", text, net, ok, want)
		}
	}
	for _, table := range oddTables() {
		if net, ok := impl.NetOfPair(3, table); ok || !sameText(net, impl.Net{}) {
			t.Errorf("%v: %v, %v", table, net, ok)
		}
	}
}

// Promise 9: a pair makes a Net that has its table; its gates are the least Planes of the pair.
func TestPairsMakeNetsThatHaveTheirTables(t *testing.T) {
	eachTable(1, 3, func(n int, table []int) {
		pair, has := impl.FindPair(n, table)
		net, ok := impl.NetOfPair(n, table)
		if ok != has || !ok {
			if ok != has || !sameText(net, impl.Net{}) {
				t.Fatalf("%v: %v, %v; %v, %v", table, pair, has, net, ok)
			}
			return
		}
		tables, fine := impl.NetTables(net)
		if !fine || !impl.IsNet(net) || len(tables) != 1 || !slices.Equal(tables[0], table) || !sameText(netTablesBy(net), tables) {
			t.Fatalf("%v: %v has %v", table, net, tables)
		}
		planes := gates()
		for i, bits := range []int{n, n, 2} {
			planes = append(planes, weighedBy(bits)[fmt.Sprint(pair[i])].plane)
		}
		if want := netOf(n, planes[:2], planes[2:]); !sameText(net, want) {
			t.Fatalf("%v: %v, not %v", table, net, want)
		}
	})
}

// For other numbers of bits, and for lists that are no tables of them, there are no pairs.
func TestPairsOfOtherTables(t *testing.T) {
	check := func(n int, table []int) {
		pair, one := impl.FindPair(n, table)
		needed, two := impl.GatesNeeded(n, table)
		net, three := impl.NetOfPair(n, table)
		if one || two || three || len(pair) != 0 || needed != 0 || !sameText(net, impl.Net{}) {
			t.Errorf("%d bits, %v: %v, %v; %d, %v; %v, %v", n, table, pair, one, needed, two, net, three)
		}
	}
	for _, n := range []int{0, 4, 5, -1, -2, 62, 63, 64, 65, math.MinInt, math.MaxInt} {
		for _, length := range []int{0, 1, 2, 4, 8, 16, 32, 64} {
			check(n, make([]int, length))
			check(n, slices.Repeat([]int{1}, length))
		}
	}
	for n := 1; n <= 3; n++ {
		for length := range 40 {
			if length != 1<<n {
				check(n, make([]int, length))
			}
		}
		for place := range 1 << n {
			for _, bit := range []int{-1, 2, 3, math.MinInt, math.MaxInt} {
				table := make([]int, 1<<n)
				table[place] = bit
				check(n, table)
			}
		}
	}
}
