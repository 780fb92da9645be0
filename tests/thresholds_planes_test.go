package tests

import (
	"fmt"
	"math"
	"math/rand"
	"slices"
	"testing"

	"loop.example/g01135/impl"
)

// The limits are those of the document.
func TestLimitsOfThresholds(t *testing.T) {
	if impl.MaxWeigh != 3 || impl.MaxBits != 4 {
		t.Error(impl.MaxWeigh, impl.MaxBits)
	}
}

func TestIsTable(t *testing.T) {
	eachTable(0, 4, func(n int, table []int) {
		for bits := -1; bits <= 5; bits++ {
			if is := impl.IsTable(bits, table); is != (bits == n) {
				t.Fatalf("IsTable(%d, %v) = %v", bits, table, is)
			}
		}
	})
	for n := -2; n <= 8; n++ {
		for length := range 300 {
			is := impl.IsTable(n, make([]int, length))
			if is != (n >= 0 && n <= 4 && length == 1<<n) {
				t.Errorf("IsTable of %d bits and %d zeros: %v", n, length, is)
			}
		}
	}
	for n := range 5 {
		for k := range 1 << n {
			for _, bit := range []int{-1, 2, 3, -2, math.MinInt, math.MaxInt} {
				table := make([]int, 1<<n)
				table[k] = bit
				if impl.IsTable(n, table) {
					t.Errorf("IsTable(%d, %v)", n, table)
				}
			}
		}
	}
	for _, n := range []int{62, 63, 64, 65, -64, math.MinInt, math.MaxInt} {
		for _, table := range [][]int{nil, {}, {0}, {1, 1}, make([]int, 16)} {
			if impl.IsTable(n, table) {
				t.Errorf("IsTable(%d, %v)", n, table)
			}
		}
	}
}

// tableOfText returns the table with the digits of a text.
func tableOfText(text string) (int, []int) {
	n, table := 0, []int{}
	for _, digit := range text {
		table = append(table, int(digit-'0'))
	}
	for 1<<n < len(table) {
		n++
	}
	return n, table
}

func TestLeastPlane(t *testing.T) {
	for _, c := range []struct {
		text string
		want impl.Plane
		size int
	}{
		{"00", planeOf(1, 0), 0}, {"11", planeOf(0, 0), 0}, {"01", planeOf(1, 1), 1}, {"10", planeOf(0, -1), 1},
		{"0001", planeOf(2, 1, 1), 2}, {"0111", planeOf(1, 1, 1), 2}, {"1000", planeOf(0, -1, -1), 2},
		{"1110", planeOf(-1, -1, -1), 2}, {"0010", planeOf(1, -1, 1), 2}, {"0100", planeOf(1, 1, -1), 2},
		{"0101", planeOf(1, 1, 0), 1}, {"0011", planeOf(1, 0, 1), 1}, {"1100", planeOf(0, 0, -1), 1},
		{"0000", planeOf(1, 0, 0), 0}, {"1111", planeOf(0, 0, 0), 0},
		{"00010111", planeOf(2, 1, 1, 1), 3}, {"11101000", planeOf(-1, -1, -1, -1), 3},
		{"01011111", planeOf(1, 1, 0, 1), 2}, {"00011111", planeOf(2, 1, 1, 2), 4}, {"00000111", planeOf(3, 1, 1, 2), 4},
		{"0000000000000000", planeOf(1, 0, 0, 0, 0), 0}, {"1111111111111111", planeOf(0, 0, 0, 0, 0), 0},
		{"0000000000000001", planeOf(4, 1, 1, 1, 1), 4}, {"0111111111111111", planeOf(1, 1, 1, 1, 1), 4},
		{"0000000011111111", planeOf(1, 0, 0, 0, 1), 1}, {"1000000000000000", planeOf(0, -1, -1, -1, -1), 4},
		{"0000000101111111", planeOf(3, 1, 1, 1, 2), 5}, {"1111111010000000", planeOf(-2, -1, -1, -1, -2), 5},
		{"0000000001111111", planeOf(4, 1, 1, 1, 3), 6}, {"0001011111111111", planeOf(2, 1, 1, 1, 2), 5},
	} {
		n, table := tableOfText(c.text)
		p, one := impl.LeastPlane(n, table)
		size, two := impl.SizeOf(n, table)
		if !one || !two || !sameText(p, c.want) || size != c.size {
			t.Errorf("%s: %v, %v, not %v; %d, %v, not %d", c.text, p, one, c.want, size, two, c.size)
		}
	}
	for _, text := range []string{"0110", "1001", "01101001", "01111110", "0001000100011110"} {
		n, table := tableOfText(text)
		p, one := impl.LeastPlane(n, table)
		size, two := impl.SizeOf(n, table)
		if one || two || !sameText(p, impl.Plane{}) || size != 0 {
			t.Errorf("%s: %v, %v; %d, %v", text, p, one, size, two)
		}
	}
}

// Both tables of no bits are threshold tables of the size 0, but have no Plane.
func TestTablesOfNoBits(t *testing.T) {
	for bit := range 2 {
		table := []int{bit}
		is, one := impl.IsThreshold(0, table)
		size, two := impl.SizeOf(0, table)
		p, three := impl.LeastPlane(0, table)
		trade, four := impl.FindTrade(0, table)
		if !one || !is || !two || size != 0 || three || !sameText(p, impl.Plane{}) || four || len(trade) != 0 {
			t.Errorf("%v: %v, %v; %d, %v; %v, %v; %v, %v", table, is, one, size, two, p, three, trade, four)
		}
		chow, one := impl.ChowNumbers(0, table)
		signs, two := impl.BitSigns(0, table)
		moves, three := impl.InfluencesOf(0, table)
		if !one || !two || !three || !slices.Equal(chow, table) || len(signs) != 0 || len(moves) != 0 {
			t.Errorf("%v: %v, %v; %v, %v; %v, %v", table, chow, one, signs, two, moves, three)
		}
	}
	for _, table := range [][]int{nil, {}, {2}, {-1}, {0, 0}, {1, 1}} {
		_, one := impl.IsThreshold(0, table)
		_, two := impl.SizeOf(0, table)
		_, three := impl.LeastPlane(0, table)
		if one || two || three {
			t.Errorf("%v: %v, %v, %v", table, one, two, three)
		}
	}
}

// The tables that tests find by Weights are all threshold tables: their numbers are known, and no
// size is greater than that up to which all Weights were looked at.
func TestAllWeightsWereLookedAt(t *testing.T) {
	for n, want := range []int{2, 4, 14, 104, 1882} {
		known := weighedBy(n)
		if len(known) != want {
			t.Errorf("%d bits: %d tables", n, len(known))
		}
		for text, least := range known {
			if least.size > mostWeights {
				t.Errorf("%s has the size %d", text, least.size)
			}
		}
	}
}

// Promise 5: of all tables, the threshold tables are those that Weights were found for, and have
// no trade; all others have one. Each threshold table has the Plane of the document.
func TestTablesAreThresholdTablesOrHaveTrades(t *testing.T) {
	eachTable(0, 4, func(n int, table []int) {
		least, want := weighedBy(n)[fmt.Sprint(table)]
		is, ok := impl.IsThreshold(n, table)
		trade, traded := impl.FindTrade(n, table)
		if !ok || is != want || traded == want || !slices.Equal(trade, firstTradeBy(table)) {
			t.Fatalf("%v: %v, %v; %v, %v", table, is, ok, trade, traded)
		}
		if good, ok := impl.IsTrade(n, table, trade); !ok || good != traded {
			t.Fatalf("%v: %v is a trade: %v, %v", table, trade, good, ok)
		}
		size, one := impl.SizeOf(n, table)
		p, two := impl.LeastPlane(n, table)
		if n == 0 {
			least.plane = impl.Plane{}
		}
		if one != want || size != least.size || two != (want && n > 0) || !sameText(p, least.plane) {
			t.Fatalf("%v: the size %d, %v; the Plane %v, %v; not %v", table, size, one, p, two, least)
		}
	})
}

// checkLeast checks what the document says of the least Plane of a table of at least one bit, and
// what chapters 2 and 4 promise of a Plane with this table.
func checkLeast(t *testing.T, n int, table []int, p impl.Plane) {
	t.Helper()
	made, one := impl.PlaneTable(p)
	s, two := impl.TableSample(n, table)
	fits, three := impl.FitsSample(s, p)
	if !one || !two || !three || !slices.Equal(made, table) || !fits || slices.Max(p.Weights) > 3 || slices.Min(p.Weights) < -3 {
		t.Fatalf("%v: %v has %v, %v; %v, %v", table, p, made, one, fits, three)
	}
	products := []int{}
	for k := range table {
		x, _ := impl.BitPoint(n, k)
		sum, ok := impl.ProductOf(p, x)
		if !ok {
			t.Fatalf("%v has no product with %v", p, x)
		}
		if table[k] == 1 {
			products = append(products, sum)
		}
	}
	if len(products) > 0 && p.Bound != slices.Min(products) || len(products) == 0 && p.Bound != 1 {
		t.Fatalf("%v: the Bound of %v; %v", table, p, products)
	}
	turned, one := impl.TurnPlane(p)
	other, two := impl.PlaneTable(turned)
	if !one || !two || !slices.Equal(other, complementBy(table)) {
		t.Fatalf("%v: %v, turned %v, has %v", table, p, turned, other)
	}
}

func TestLeastPlanesHaveTheirTables(t *testing.T) {
	count := 0
	eachTable(1, 4, func(n int, table []int) {
		if p, ok := impl.LeastPlane(n, table); ok {
			checkLeast(t, n, table, p)
			count++
		}
	})
	if count != 4+14+104+1882 {
		t.Error(count)
	}
}

// The tables of Planes with any Weights and any Bound are threshold tables, and no such Plane has
// a less size than the table.
func TestTablesOfPlanesAreThresholdTables(t *testing.T) {
	r := rand.New(rand.NewSource(200))
	for i := range 4000 {
		n := 1 + i%4
		p := randomPlane(r, n, []int{1, 2, 4, 9, 99}[r.Intn(5)])
		table, _ := impl.PlaneTable(p)
		is, one := impl.IsThreshold(n, table)
		size, two := impl.SizeOf(n, table)
		if !one || !is || !two || size > sizeBy(p.Weights) {
			t.Fatalf("%v has %v: %v, %v; the size %d, %v", p, table, is, one, size, two)
		}
		if trade, ok := impl.FindTrade(n, table); ok || len(trade) > 0 {
			t.Fatalf("%v has %v with the trade %v", p, table, trade)
		}
	}
}

// checkSampleOf checks that the TableSample of a table can be parted exactly if the table is a
// threshold table, and that small Planes up to MaxWeigh tell the same; a trade is a certificate.
func checkSampleOf(t *testing.T, n int, table []int) bool {
	t.Helper()
	s, _ := impl.TableSample(n, table)
	is, one := impl.IsThreshold(n, table)
	can, two := impl.CanPart(s)
	if !one || !two || is != can {
		t.Fatalf("%v: %v, %v; can be parted: %v, %v", table, is, one, can, two)
	}
	p, small := impl.SmallPlane(s, impl.MaxWeigh)
	if made, ok := impl.PlaneTable(p); small != is || ok != is || is && !slices.Equal(made, table) {
		t.Fatalf("%v: %v, %v, with the table %v", table, p, small, made)
	}
	trade, traded := impl.FindTrade(n, table)
	if !traded {
		return is
	}
	list := make([]int, len(table))
	for _, place := range trade {
		list[place]++
	}
	if good, ok := impl.IsCertificate(s, list); !ok || !good {
		t.Fatalf("%v: the trade %v is no certificate: %v, %v", table, trade, good, ok)
	}
	return is
}

func TestTablesArePartedAsTheirSamples(t *testing.T) {
	eachTable(1, 3, func(n int, table []int) { checkSampleOf(t, n, table) })
	r := rand.New(rand.NewSource(201))
	count := map[bool]int{}
	for range 200 {
		table, _ := impl.PlaneTable(randomPlane(r, 4, 3))
		count[checkSampleOf(t, 4, table)]++
		table[r.Intn(16)] ^= 1
		count[checkSampleOf(t, 4, table)]++
	}
	if count[true] < 100 || count[false] < 50 {
		t.Error(count)
	}
}

func TestCountThresholds(t *testing.T) {
	for n := -3; n <= 8; n++ {
		want := 0
		if n >= 0 && n <= 4 {
			want = []int{2, 4, 14, 104, 1882}[n]
		}
		if count, ok := impl.CountThresholds(n); ok != (want > 0) || count != want {
			t.Errorf("%d bits: %d, %v", n, count, ok)
		}
	}
	for _, n := range []int{62, 63, 64, 65, math.MinInt, math.MaxInt} {
		if count, ok := impl.CountThresholds(n); ok || count != 0 {
			t.Errorf("%d bits: %d, %v", n, count, ok)
		}
	}
	for n := range 5 {
		found := 0
		eachTable(n, n, func(n int, table []int) {
			if is, _ := impl.IsThreshold(n, table); is {
				found++
			}
		})
		if count, ok := impl.CountThresholds(n); !ok || count != found {
			t.Errorf("%d bits: %d, %v, but %d were found", n, count, ok, found)
		}
	}
	for n := 1; n <= 3; n++ {
		count, one := impl.CountThresholds(n)
		tables, two := impl.WeightsTable(n, impl.MaxWeigh)
		if !one || !two || count != tables {
			t.Errorf("%d bits: %d, %v; %d, %v", n, count, one, tables, two)
		}
	}
}
