package tests

import (
	"fmt"
	"slices"
	"testing"

	"loop.example/g01135/impl"
)

// twoLayers returns a Net with 3 Inputs, whose first layer has a gate for "both of the first two"
// and one for "not the third one", and whose second layer gives both, one of them, the first one
// and 1 always.
func twoLayers() impl.Net {
	return netOf(3, gates(planeOf(2, 1, 1, 0), planeOf(0, 0, 0, -1)), gates(planeOf(2, 1, 1), planeOf(1, 1, 1), planeOf(5, 5, 0), always(2, 1)))
}

func TestEvaluateNet(t *testing.T) {
	for _, c := range []struct {
		net  impl.Net
		x    []int
		want []int
	}{
		{oneGate(planeOf(1, 1)), []int{0}, []int{0}}, {oneGate(planeOf(1, 1)), []int{1}, []int{1}},
		{oneGate(planeOf(0, -1)), []int{0}, []int{1}}, {oneGate(planeOf(0, -1)), []int{1}, []int{0}},
		{oneGate(always(4, 1)), []int{1, 0, 1, 0}, []int{1}}, {oneGate(always(4, -1)), []int{1, 0, 1, 0}, []int{0}},
		{oneGate(planeOf(1, 99, -99, 1)), []int{1, 1, 1}, []int{1}}, {oneGate(planeOf(1, 99, -99, 1)), []int{1, 1, 0}, []int{0}},
		{netOf(2, gates(planeOf(1, 1, 0), planeOf(1, 0, 1))), []int{1, 0}, []int{1, 0}}, {netOf(2, gates(planeOf(1, 0, 1), planeOf(1, 1, 0))), []int{1, 0}, []int{0, 1}},
		{twoLayers(), []int{0, 0, 0}, []int{0, 1, 0, 1}}, {twoLayers(), []int{1, 1, 0}, []int{1, 1, 1, 1}}, {twoLayers(), []int{1, 1, 1}, []int{0, 1, 1, 1}},
		{twoLayers(), []int{0, 1, 1}, []int{0, 0, 0, 1}}, {twoLayers(), []int{1, 0, 0}, []int{0, 1, 0, 1}},
		// A layer is given 0, not -1, for the side -1: here, nothing but 0 is at least 0.
		{netOf(1, gates(planeOf(1, 1)), gates(planeOf(0, -1))), []int{0}, []int{1}}, {netOf(1, gates(planeOf(1, 1)), gates(planeOf(0, -1))), []int{1}, []int{0}},
		{netOf(1, gates(planeOf(1, 1)), gates(planeOf(-1, 1))), []int{0}, []int{1}}, {netOf(1, gates(planeOf(1, 1)), gates(planeOf(0, 1))), []int{0}, []int{1}},
		{netOf(1, gates(planeOf(1, 1), planeOf(1, 1)), gates(planeOf(1, 1, 0)), gates(planeOf(1, -1)), gates(planeOf(0, 0))), []int{1}, []int{1}},
	} {
		if bits, ok := impl.EvaluateNet(c.net, c.x); !ok || !slices.Equal(bits, c.want) {
			t.Errorf("%v gives %v for %v, not %v", c.net, bits, c.x, c.want)
		}
	}
}

func TestNetTables(t *testing.T) {
	for _, c := range []struct {
		net  impl.Net
		want []string
	}{
		{oneGate(planeOf(1, 1)), []string{"01"}}, {oneGate(planeOf(0, -1)), []string{"10"}}, {oneGate(planeOf(2, 1, 1)), []string{"0001"}},
		{oneGate(planeOf(1, 1, -1)), []string{"0100"}}, {oneGate(planeOf(1, -1, 1)), []string{"0010"}}, {oneGate(planeOf(1, 0, 0, 1)), []string{"00001111"}},
		{oneGate(planeOf(1, 0, 0, 0, 1)), []string{"0000000011111111"}}, {oneGate(planeOf(2, 1, 1, 1)), []string{"00010111"}},
		{netOf(2, gates(planeOf(1, 1, 0), planeOf(1, 0, 1), planeOf(2, 1, 1))), []string{"0101", "0011", "0001"}},
		{twoLayers(), []string{"00010000", "11110001", "00010001", "11111111"}},
		{netOf(2, gates(planeOf(2, 1, 1), planeOf(1, 1, 1)), gates(planeOf(1, -1, 1))), []string{"0110"}},
	} {
		tables, ok := impl.NetTables(c.net)
		if !ok || len(tables) != len(c.want) {
			t.Fatalf("%v: %v, %v", c.net, tables, ok)
		}
		for i, text := range c.want {
			if _, want := tableOfText(text); !slices.Equal(tables[i], want) {
				t.Errorf("%v: the table %d is %v, not %v", c.net, i, tables[i], want)
			}
		}
	}
}

// What a Net gives, and its tables, are those of the document's definition.
func TestNetsGiveWhatTheDocumentSays(t *testing.T) {
	kinds := map[string]int{}
	eachNet(410, func(net impl.Net) {
		tables, ok := impl.NetTables(net)
		if !ok || !sameText(tables, netTablesBy(net)) {
			t.Fatalf("%v: the tables %v, %v, not %v", net, tables, ok, netTablesBy(net))
		}
		for k, x := range bitPoints()[:1<<net.Inputs] {
			x = x[:net.Inputs]
			bits, ok := impl.EvaluateNet(net, x)
			if !ok || !slices.Equal(bits, givesBy(net, x)) || len(bits) != len(lastGates(net)) {
				t.Fatalf("%v gives %v, %v for %v", net, bits, ok, x)
			}
			for i, bit := range bits {
				if tables[i][k] != bit {
					t.Fatalf("%v gives %v for %v, but has the tables %v", net, bits, x, tables)
				}
			}
		}
		for _, table := range tables {
			if !impl.IsTable(net.Inputs, table) {
				t.Fatalf("%v: %v is no table", net, table)
			}
			kinds[fmt.Sprint(table)]++
		}
	})
	if len(kinds) < 300 {
		t.Error("only so many tables: ", len(kinds))
	}
}

// A layer whose Weights all are 0 gives the same for all points, whatever the layers before give:
// a gate gives 1 exactly if its Bound is at most 0.
func TestLayersWithWeightsOfZero(t *testing.T) {
	bounds := []int{-99, -1, 0, 1}
	zeros := func(given int) []impl.Plane {
		layer := gates()
		for _, bound := range bounds {
			layer = append(layer, planeOf(bound, make([]int, given)...))
		}
		return layer
	}
	for inputs := 1; inputs <= 4; inputs++ {
		counter := gates(planeOf(1, slices.Repeat([]int{1}, inputs)...), planeOf(2, slices.Repeat([]int{1}, inputs)...))
		for _, net := range []impl.Net{netOf(inputs, zeros(inputs)), netOf(inputs, counter, zeros(2)), netOf(inputs, zeros(inputs), zeros(4)), netOf(inputs, counter, zeros(2), zeros(4), zeros(4))} {
			sum, fine := impl.WeightSum(net)
			tables, ok := impl.NetTables(net)
			if !ok || !fine || len(tables) != 4 || sum > 2*inputs {
				t.Fatalf("%v: %v, %v; %d, %v", net, tables, ok, sum, fine)
			}
			for i, table := range tables {
				bit := map[bool]int{true: 1}[bounds[i] <= 0]
				if !slices.Equal(table, slices.Repeat([]int{bit}, 1<<inputs)) {
					t.Errorf("%v: %v for the Bound %d", net, table, bounds[i])
				}
			}
		}
	}
	// What is behind such a layer is given the same always, too: here 1, 1, 1 and 0.
	net := netOf(1, zeros(1), gates(planeOf(3, 1, 1, 1, 1), planeOf(4, 1, 1, 1, 1), planeOf(0, 0, 0, 0, -1)))
	if tables, ok := impl.NetTables(net); !ok || !sameText(tables, [][]int{{1, 1}, {0, 0}, {1, 1}}) {
		t.Errorf("%v: %v, %v", net, tables, ok)
	}
}

func TestGateCountAndWeightSum(t *testing.T) {
	full := slices.Repeat(gates(planeOf(99, 99, -99, 99, -99)), 4)
	for _, c := range []struct {
		net        impl.Net
		count, sum int
	}{
		{oneGate(planeOf(5, 0)), 1, 0}, {oneGate(planeOf(-7, -3)), 1, 3}, {oneGate(planeOf(9, 1, -2, 3, -4)), 1, 10}, {twoLayers(), 6, 12},
		{netOf(2, gates(planeOf(1, 1, -1), planeOf(1, 0, 5))), 2, 7}, {netOf(1, slices.Repeat([][]impl.Plane{gates(planeOf(1, -1))}, 6)...), 6, 6},
		{netOf(4, full), 4, 1584}, {netOf(4, full, full, full, full, full, full), 24, 9504},
	} {
		count, one := impl.GateCount(c.net)
		sum, two := impl.WeightSum(c.net)
		if !one || !two || count != c.count || sum != c.sum {
			t.Errorf("%v: %d, %v, not %d; %d, %v, not %d", c.net, count, one, c.count, sum, two, c.sum)
		}
	}
	eachNet(411, func(net impl.Net) {
		count, one := impl.GateCount(net)
		sum, two := impl.WeightSum(net)
		if !one || !two || count != gateCountBy(net) || sum != weightSumBy(net) {
			t.Fatalf("%v: %d, %v; %d, %v", net, count, one, sum, two)
		}
	})
}

// Without a Net, nothing is given; and a Net gives nothing for other lists than bit points.
func TestNetsGiveNothing(t *testing.T) {
	for _, net := range notNets() {
		bits, one := impl.EvaluateNet(net, make([]int, max(min(net.Inputs, 10), 0)))
		tables, two := impl.NetTables(net)
		count, three := impl.GateCount(net)
		sum, four := impl.WeightSum(net)
		if one || two || three || four || len(bits) != 0 || len(tables) != 0 || count != 0 || sum != 0 {
			t.Errorf("%v: %v, %v; %v, %v; %d, %v; %d, %v", net, bits, one, tables, two, count, three, sum, four)
		}
	}
	for inputs := 1; inputs <= 4; inputs++ {
		net := oneGate(always(inputs, 1))
		for length := range 8 {
			if bits, ok := impl.EvaluateNet(net, make([]int, length)); ok != (length == inputs) {
				t.Errorf("%v gives %v for %d zeros", net, bits, length)
			}
		}
		for place := range inputs {
			for _, bit := range []int{-1, 2, 3, -2, 1 << 32} {
				x := make([]int, inputs)
				x[place] = bit
				if bits, ok := impl.EvaluateNet(net, x); ok || len(bits) != 0 {
					t.Errorf("%v gives %v for %v", net, bits, x)
				}
			}
		}
	}
}
