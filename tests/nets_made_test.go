package tests

import (
	"fmt"
	"math"
	"slices"
	"testing"

	"loop.example/g01135/impl"
)

// badInputs are numbers of Inputs that no Net has.
func badInputs() []any { return values(0, -1, 5, 6, -4, 62, 63, 64, math.MinInt, math.MaxInt) }

// badPairs are numbers k for which there is no Net that compares numbers of k digits.
func badPairs() []any { return values(0, -1, 3, 4, -2, 62, 63, 64, math.MinInt, math.MaxInt) }

func TestParityNet(t *testing.T) {
	ones := func(n int) []int { return slices.Repeat([]int{1}, n) }
	for n, want := range map[int]impl.Net{
		1: netOf(1, gates(planeOf(1, 1)), gates(planeOf(1, 1))),
		2: netOf(2, gates(planeOf(1, 1, 1), planeOf(2, 1, 1)), gates(planeOf(1, 1, -1))),
		3: netOf(3, gates(planeOf(1, ones(3)...), planeOf(2, ones(3)...), planeOf(3, ones(3)...)), gates(planeOf(1, 1, -1, 1))),
		4: netOf(4, gates(planeOf(1, ones(4)...), planeOf(2, ones(4)...), planeOf(3, ones(4)...), planeOf(4, ones(4)...)), gates(planeOf(1, 1, -1, 1, -1))),
	} {
		net, ok := impl.ParityNet(n)
		if !ok || !sameText(net, want) || !impl.IsNet(net) {
			t.Errorf("%d: %v, %v, not %v", n, net, ok, want)
		}
		count, one := impl.GateCount(net)
		sum, two := impl.WeightSum(net)
		if !one || !two || count != n+1 || sum != n*n+n {
			t.Errorf("%d: %d gates, %v, the Weights %d, %v", n, count, one, sum, two)
		}
		tables, three := impl.NetTables(net)
		if !three || len(tables) != 1 {
			t.Fatalf("%d: %v, %v", n, tables, three)
		}
		for k, x := range bitPoints()[:1<<n] {
			bits, ok := impl.EvaluateNet(net, x[:n])
			if odd := sumBy(x) % 2; !ok || !slices.Equal(bits, []int{odd}) || tables[0][k] != odd {
				t.Errorf("%d: %v for %v, and the tables %v", n, bits, x[:n], tables)
			}
		}
	}
}

func TestMajorityNet(t *testing.T) {
	for n, want := range map[int]impl.Net{
		1: oneGate(planeOf(1, 1)), 2: oneGate(planeOf(2, 1, 1)), 3: oneGate(planeOf(2, 1, 1, 1)), 4: oneGate(planeOf(3, 1, 1, 1, 1)),
	} {
		net, ok := impl.MajorityNet(n)
		if !ok || !sameText(net, want) || !impl.IsNet(net) {
			t.Errorf("%d: %v, %v, not %v", n, net, ok, want)
		}
		for _, x := range bitPoints()[:1<<n] {
			want := map[bool]int{true: 1}[2*sumBy(x) > n]
			if bits, ok := impl.EvaluateNet(net, x[:n]); !ok || !slices.Equal(bits, []int{want}) {
				t.Errorf("%d: %v, %v for %v", n, bits, ok, x[:n])
			}
		}
	}
}

func TestCompareNet(t *testing.T) {
	for k, want := range map[int]impl.Net{1: oneGate(planeOf(0, 1, -1)), 2: oneGate(planeOf(0, 1, -1, 2, -2))} {
		net, ok := impl.CompareNet(k)
		if !ok || !sameText(net, want) || !impl.IsNet(net) {
			t.Errorf("%d: %v, %v, not %v", k, net, ok, want)
		}
		for _, x := range bitPoints()[:1<<(2*k)] {
			numbers := [2]int{}
			for i, bit := range x {
				numbers[i%2] += bit << (i / 2)
			}
			want := map[bool]int{true: 1}[numbers[0] >= numbers[1]]
			if bits, ok := impl.EvaluateNet(net, x[:2*k]); !ok || !slices.Equal(bits, []int{want}) {
				t.Errorf("%d: %v, %v for %v: %v", k, bits, ok, x[:2*k], numbers)
			}
		}
	}
}

// For other numbers than those of the document, there is no such Net.
func TestNoNetsOfOtherNumbers(t *testing.T) {
	for _, n := range badInputs() {
		parity, one := impl.ParityNet(n.(int))
		majority, two := impl.MajorityNet(n.(int))
		if one || two || !sameText([]impl.Net{parity, majority}, make([]impl.Net, 2)) {
			t.Errorf("%d: %v, %v; %v, %v", n, parity, one, majority, two)
		}
	}
	for _, k := range badPairs() {
		if net, ok := impl.CompareNet(k.(int)); ok || !sameText(net, impl.Net{}) {
			t.Errorf("%d: %v, %v", k, net, ok)
		}
	}
}

func TestSinglePlane(t *testing.T) {
	majority, _ := impl.MajorityNet(3)
	compare, _ := impl.CompareNet(2)
	parity, _ := impl.ParityNet(1)
	for _, c := range []struct {
		net  impl.Net
		want impl.Plane
	}{
		{majority, planeOf(2, 1, 1, 1)}, {compare, planeOf(0, 1, -1, 2, -2)}, {parity, planeOf(1, 1)},
		{oneGate(planeOf(50, 30, 20, -70)), planeOf(2, 1, 1, -1)}, {oneGate(planeOf(7, 0, 0)), planeOf(1, 0, 0)}, {oneGate(planeOf(-7, 3, 3)), planeOf(0, 0, 0)},
		{oneGate(planeOf(99, 99, 99, 99, 99)), planeOf(1, 1, 1, 1, 1)}, {oneGate(planeOf(-99, -99, 0)), planeOf(0, 0, 0)},
		// Several gates ahead of the last one: "one of both, and the third one", and "not both".
		{netOf(3, gates(planeOf(1, 1, 1, 0), planeOf(1, 0, 0, 1)), gates(planeOf(2, 1, 1))), planeOf(3, 1, 1, 2)},
		{netOf(2, gates(planeOf(2, 1, 1)), gates(planeOf(0, -1))), planeOf(-1, -1, -1)},
		{netOf(4, gates(always(4, 1), always(4, -1)), gates(planeOf(1, 0, 1))), planeOf(1, 0, 0, 0, 0)},
	} {
		p, ok := impl.SinglePlane(c.net)
		if !ok || !sameText(p, c.want) {
			t.Errorf("%v: %v, %v, not %v", c.net, p, ok, c.want)
		}
	}
	for _, net := range noSinglePlanes() {
		if p, ok := impl.SinglePlane(net); ok || !sameText(p, impl.Plane{}) {
			t.Errorf("%v: %v, %v", net, p, ok)
		}
	}
}

// noSinglePlanes returns Nets with several gates in the last layer, and some whose tables are no
// threshold tables.
func noSinglePlanes() []impl.Net {
	list := []impl.Net{
		netOf(1, gates(planeOf(1, 1), planeOf(1, 1))), netOf(2, gates(planeOf(1, 1, 1)), gates(planeOf(1, 1), planeOf(0, 0))), netOf(4, splitJury(4, 2, 2)),
		netOf(4, gates(planeOf(2, 1, 1, 0, 0), planeOf(2, 0, 0, 1, 1)), gates(planeOf(1, 1, 1))), // the first two or the last two
	}
	for n := 2; n <= 4; n++ {
		parity, _ := impl.ParityNet(n)
		list = append(list, parity)
	}
	return list
}

// SinglePlane is the least Plane of the table exactly for Nets with one gate in the last layer that
// have a threshold table; it has the same table.
func TestSinglePlanesAreThoseOfTheDocument(t *testing.T) {
	count := map[string]int{}
	eachNet(420, func(net impl.Net) {
		p, ok := impl.SinglePlane(net)
		tables := netTablesBy(net)
		least, threshold := weighedBy(net.Inputs)[fmt.Sprint(tables[0])]
		switch {
		case len(tables) > 1:
			count["several"]++
		case threshold && len(net.Layers) == 1:
			count["one layer"]++
		case threshold:
			count["more layers"]++
		default:
			count["none"]++
		}
		if len(tables) > 1 || !threshold {
			if ok || !sameText(p, impl.Plane{}) {
				t.Fatalf("%v: %v, %v", net, p, ok)
			}
			return
		}
		if !ok || !sameText(p, least.plane) {
			t.Fatalf("%v: %v, %v, not %v", net, p, ok, least.plane)
		}
		again, ok := impl.SinglePlane(oneGate(p))
		if !ok || !sameText(p, again) || !sameText(netTablesBy(oneGate(p)), tables) {
			t.Fatalf("%v: %v, and of this %v, %v", net, p, again, ok)
		}
	})
	if count["several"] < 100 || count["one layer"] < 100 || count["more layers"] < 100 || count["none"] < 20 {
		t.Error(count)
	}
}
