package tests

import (
	"math"
	"math/rand"
	"slices"
	"testing"

	"loop.example/g01135/impl"
)

func TestFindTrade(t *testing.T) {
	for _, c := range []struct {
		text string
		want []int
	}{
		{"0110", []int{1, 2, 0, 3}}, {"1001", []int{0, 3, 1, 2}},
		{"01101001", []int{1, 2, 0, 3}}, {"10010110", []int{0, 3, 1, 2}},
		{"01111110", []int{1, 6, 0, 7}}, {"10000001", []int{0, 7, 1, 6}},
		{"00100100", []int{2, 5, 0, 7}}, {"01010011", []int{1, 6, 2, 5}},
		{"0001000100011110", []int{3, 12, 0, 15}}, {"0110011001100110", []int{1, 2, 0, 3}},
	} {
		n, table := tableOfText(c.text)
		is, one := impl.IsThreshold(n, table)
		trade, two := impl.FindTrade(n, table)
		good, three := impl.IsTrade(n, table, c.want)
		if !one || is || !two || !slices.Equal(trade, c.want) || !three || !good {
			t.Errorf("%s: %v, %v; %v, %v; %v, %v", c.text, is, one, trade, two, good, three)
		}
	}
	for _, text := range []string{"0", "1", "00", "11", "01", "10", "0001", "0101", "00000000", "11111111", "00010111", "01010101"} {
		n, table := tableOfText(text)
		is, one := impl.IsThreshold(n, table)
		if trade, ok := impl.FindTrade(n, table); !one || !is || ok || len(trade) > 0 {
			t.Errorf("%s: %v, %v; %v, %v", text, is, one, trade, ok)
		}
	}
}

// checkIsTrade checks IsTrade by the document's definition.
func checkIsTrade(t *testing.T, n int, table, trade []int) bool {
	t.Helper()
	want := isTradeBy(table, trade)
	if is, ok := impl.IsTrade(n, table, trade); !ok || is != want {
		t.Fatalf("IsTrade(%d, %v, %v) = %v, %v", n, table, trade, is, ok)
	}
	return want
}

// All lists of four places and of some numbers beside them, and the first ones of these, are
// trades exactly if they are by the definition.
func TestIsTradeForAllLists(t *testing.T) {
	count := 0
	for n := range 3 {
		lists := [][]int{{}}
		for range 4 {
			longer := [][]int{}
			for _, list := range lists {
				for place := -1; place <= 1<<n; place++ {
					longer = append(longer, append(slices.Clone(list), place))
				}
			}
			lists = longer
		}
		eachTable(n, n, func(n int, table []int) {
			for _, list := range lists {
				if checkIsTrade(t, n, table, list) {
					count++
				}
			}
		})
	}
	if count != 2 { // one of each table of 2 bits that is no threshold table
		t.Error(count, "trades")
	}
}

func TestIsTradeForTheTablesOfThreeBits(t *testing.T) {
	count := 0
	eachTable(3, 3, func(n int, table []int) {
		found := []int(nil)
		for number := range 8 * 8 * 8 * 8 {
			trade := digits(number, 8, 4)
			slices.Reverse(trade) // in lexicographic order
			if checkIsTrade(t, n, table, trade) {
				count++
				if found == nil {
					found = trade
				}
			}
		}
		if first, ok := impl.FindTrade(n, table); ok != (found != nil) || !slices.Equal(first, found) {
			t.Fatalf("%v: %v, %v, but the first trade is %v", table, first, ok, found)
		}
	})
	if count < 300 {
		t.Error("only", count, "trades")
	}
}

func TestIsTradeForTheTablesOfFourBits(t *testing.T) {
	r := rand.New(rand.NewSource(202))
	count := 0
	for range 3000 {
		table := tableOf(4, r.Intn(1<<16))
		trade := firstTradeBy(table)
		if trade == nil {
			continue
		}
		checkIsTrade(t, 4, table, trade)
		for i := range 4 {
			changed := slices.Clone(trade)
			changed[i] = r.Intn(20) - 2
			if checkIsTrade(t, 4, table, changed) {
				count++
			}
		}
		a, b, c, d := trade[0], trade[1], trade[2], trade[3]
		for _, other := range [][]int{{b, a, c, d}, {a, b, d, c}, {c, d, a, b}, {a, c, b, d}, {a, b, a, b}, {a, a, a, a}, {c, d, c, d}} {
			if checkIsTrade(t, 4, table, other) {
				t.Fatalf("%v: %v", table, other)
			}
		}
	}
	if count < 50 {
		t.Error("only", count, "other trades")
	}
}

// Lists of other lengths and with other numbers than places are no trades, but IsTrade fails for
// them only if the table is not valid.
func TestIsTradeForOtherLists(t *testing.T) {
	exclusive := []int{0, 1, 1, 0}
	for _, trade := range [][]int{
		nil, {}, {1}, {1, 2}, {1, 2, 0}, {1, 2, 0, 3, 0}, {1, 2, 0, 3, 1, 2, 0, 3}, make([]int, 100),
		{2, 1, 0, 3}, {1, 2, 3, 0}, {2, 1, 3, 0}, {0, 3, 1, 2}, {1, 1, 0, 3}, {1, 2, 0, 0}, {1, 2, 3, 3}, {1, 2, 1, 2},
		{1, 2, 0, 4}, {1, 2, -1, 3}, {-1, 2, 0, 3}, {1, 4, 0, 3}, {1, 2, 0, math.MaxInt}, {math.MinInt, 2, 0, 3},
		{1, math.MaxInt, math.MinInt, 3}, {1, 2, 0, 7}, {5, 6, 4, 7}, {-3, -2, -4, -1}, {17, 18, 16, 19},
	} {
		if is, ok := impl.IsTrade(2, exclusive, trade); !ok || is {
			t.Errorf("%v: %v, %v", trade, is, ok)
		}
		for _, table := range [][]int{nil, {0, 1, 1}, {0, 1, 1, 0, 0}, {0, 2, 1, 0}} {
			if is, ok := impl.IsTrade(2, table, trade); ok || is {
				t.Errorf("%v, %v: %v, %v", table, trade, is, ok)
			}
		}
	}
	if is, ok := impl.IsTrade(2, exclusive, []int{1, 2, 0, 3}); !ok || !is {
		t.Error(is, ok)
	}
	for _, n := range []int{-1, 0, 1, 3, 4, 5, math.MinInt, math.MaxInt} {
		if is, ok := impl.IsTrade(n, exclusive, []int{1, 2, 0, 3}); ok || is {
			t.Errorf("%d bits: %v, %v", n, is, ok)
		}
	}
}

// A trade tells that no Plane has the table: the products of any weights and its places have the
// same sum for both pairs, but those of a Plane with the table could not.
func TestTradesAreProofs(t *testing.T) {
	r := rand.New(rand.NewSource(203))
	eachTable(1, 4, func(n int, table []int) {
		trade, ok := impl.FindTrade(n, table)
		if !ok {
			return
		}
		weights := randomList(r, n, 99)
		sums := []int{}
		for _, place := range trade {
			x, _ := impl.BitPoint(n, place)
			sum, _ := impl.ProductOf(impl.Plane{Weights: weights}, x)
			sums = append(sums, sum)
		}
		if sums[0]+sums[1] != sums[2]+sums[3] {
			t.Fatalf("%v, %v: %v", table, trade, sums)
		}
		if table[trade[0]]+table[trade[1]] != 2 || table[trade[2]]+table[trade[3]] != 0 {
			t.Fatalf("%v, %v", table, trade)
		}
	})
}
