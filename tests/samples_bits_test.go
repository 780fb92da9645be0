package tests

import (
	"math"
	"math/rand"
	"slices"
	"testing"

	"loop.example/g01135/impl"
)

// bitPoints are the bit points of 4 bits, in the order of their places; those of fewer bits are
// the starts of the first ones.
func bitPoints() [][]int {
	return [][]int{
		{0, 0, 0, 0}, {1, 0, 0, 0}, {0, 1, 0, 0}, {1, 1, 0, 0}, {0, 0, 1, 0}, {1, 0, 1, 0}, {0, 1, 1, 0}, {1, 1, 1, 0},
		{0, 0, 0, 1}, {1, 0, 0, 1}, {0, 1, 0, 1}, {1, 1, 0, 1}, {0, 0, 1, 1}, {1, 0, 1, 1}, {0, 1, 1, 1}, {1, 1, 1, 1},
	}
}

func TestBitPoint(t *testing.T) {
	for n := 1; n <= 4; n++ {
		for k := range 1 << n {
			if x, ok := impl.BitPoint(n, k); !ok || !slices.Equal(x, bitPoints()[k][:n]) {
				t.Errorf("BitPoint(%d, %d) = %v, %v", n, k, x, ok)
			}
		}
		for _, k := range []int{-1, -2, 1 << n, 1<<n + 1, 1 << 40, math.MinInt, math.MaxInt} {
			if x, ok := impl.BitPoint(n, k); ok || len(x) != 0 {
				t.Errorf("BitPoint(%d, %d) = %v, %v", n, k, x, ok)
			}
		}
	}
	for _, n := range []int{0, -1, 5, 6, 62, 63, 64, 65, math.MinInt, math.MaxInt} {
		for _, k := range []int{0, 1, 16, -1} {
			if x, ok := impl.BitPoint(n, k); ok || len(x) != 0 {
				t.Errorf("BitPoint(%d, %d) = %v, %v", n, k, x, ok)
			}
		}
	}
}

func TestPlaneTable(t *testing.T) {
	for _, c := range []struct {
		p    impl.Plane
		want []int
	}{
		{planeOf(2, 1, 1), []int{0, 0, 0, 1}},
		{planeOf(1, 1, 1), []int{0, 1, 1, 1}},
		{planeOf(0, 0), []int{1, 1}},
		{planeOf(1, 0), []int{0, 0}},
		{planeOf(1, 1), []int{0, 1}},
		{planeOf(0, -1), []int{1, 0}},
		{planeOf(1, 2, 1, 1), []int{0, 1, 1, 1, 1, 1, 1, 1}},
		{planeOf(2, 1, 1, 1), []int{0, 0, 0, 1, 0, 1, 1, 1}},
		{planeOf(1, 1, 0, 0), []int{0, 1, 0, 1, 0, 1, 0, 1}},
		{planeOf(1, 0, 0, 1), []int{0, 0, 0, 0, 1, 1, 1, 1}},
		{planeOf(99, 99, 99, 99, 99), []int{0, 1, 1, 1, 1, 1, 1, 1, 1, 1, 1, 1, 1, 1, 1, 1}},
		{planeOf(-99, -99, -99, -99, -99), []int{1, 1, 1, 0, 1, 0, 0, 0, 1, 0, 0, 0, 0, 0, 0, 0}},
		{planeOf(3, 1, 1, 1, 1), []int{0, 0, 0, 0, 0, 0, 0, 1, 0, 0, 0, 1, 0, 1, 1, 1}},
		{planeOf(10, 1, 2, 4, 8), []int{0, 0, 0, 0, 0, 0, 0, 0, 0, 0, 1, 1, 1, 1, 1, 1}},
	} {
		if table, ok := impl.PlaneTable(c.p); !ok || !slices.Equal(table, c.want) {
			t.Errorf("PlaneTable(%v) = %v, %v", c.p, table, ok)
		}
	}
}

// checkTableSample tests the TableSample of a table of n bits.
func checkTableSample(t *testing.T, n int, table []int) {
	t.Helper()
	s, ok := impl.TableSample(n, table)
	if !ok || len(s.Points) != 1<<n || len(s.Labels) != 1<<n || !impl.IsSample(s) {
		t.Fatalf("TableSample(%d, %v) = %v, %v", n, table, s, ok)
	}
	points := bitPoints()
	for k := range 1 << n {
		if !slices.Equal(s.Points[k], points[k][:n]) || s.Labels[k] != 2*table[k]-1 {
			t.Fatalf("TableSample(%d, %v) has %v and %d at place %d", n, table, s.Points[k], s.Labels[k], k)
		}
	}
}

func TestTableSample(t *testing.T) {
	for n := 1; n <= 4; n++ {
		table := make([]int, 1<<n)
		for ones := range 1 << (1 << n) {
			for k := range table {
				table[k] = ones >> k & 1
			}
			checkTableSample(t, n, table)
		}
	}
}

func TestTableSampleFails(t *testing.T) {
	for n := -2; n <= 6; n++ {
		for length := range 66 {
			table := make([]int, length)
			if s, ok := impl.TableSample(n, table); ok != (n >= 1 && n <= 4 && length == 1<<n) || ok != (len(s.Points) > 0) {
				t.Errorf("TableSample of %d bits and %d numbers: %v, %v", n, length, s, ok)
			}
		}
	}
	for _, n := range []int{62, 63, 64, 65, math.MinInt, math.MaxInt} {
		for _, table := range [][]int{nil, {0}, {0, 1}, make([]int, 16)} {
			if s, ok := impl.TableSample(n, table); ok || !sameText(s, impl.Sample{}) {
				t.Errorf("TableSample(%d, %v) = %v, %v", n, table, s, ok)
			}
		}
	}
	for n := 1; n <= 4; n++ {
		for k := range 1 << n {
			for _, bit := range []int{-1, 2, 3, math.MinInt, math.MaxInt} {
				table := make([]int, 1<<n)
				table[k] = bit
				if s, ok := impl.TableSample(n, table); ok || !sameText(s, impl.Sample{}) {
					t.Errorf("TableSample(%d, %v) = %v, %v", n, table, s, ok)
				}
			}
		}
	}
}

// Promise 2: a Plane fits the TableSample of its PlaneTable, and of no other table.
func TestPlanesFitTheirTables(t *testing.T) {
	r := rand.New(rand.NewSource(9))
	for d := 1; d <= 4; d++ {
		for i := range 1000 {
			p := randomPlane(r, d, []int{1, 3, 10, 99}[i%4])
			table, one := impl.PlaneTable(p)
			s, two := impl.TableSample(d, table)
			fits, three := impl.FitsSample(s, p)
			if !one || !two || !three || len(table) != 1<<d || !fits {
				t.Fatalf("%v: %v, %v; %v, %v; %v, %v", p, table, one, s, two, fits, three)
			}
			k := r.Intn(1 << d)
			if side := sideBy(p, bitPoints()[k]); table[k] != (side+1)/2 {
				t.Fatalf("%v: %v at place %d", p, table, k)
			}
			table[k] = 1 - table[k]
			s, _ = impl.TableSample(d, table)
			if wrong, ok := impl.MistakesOf(s, p); !ok || !slices.Equal(wrong, []int{k}) {
				t.Fatalf("%v: %v, %v, not %d", p, wrong, ok, k)
			}
		}
	}
}
