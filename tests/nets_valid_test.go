package tests

import (
	"math"
	"math/rand"
	"slices"
	"testing"

	"loop.example/g01135/impl"
)

// The limits are those of the document.
func TestLimitsOfNets(t *testing.T) {
	if impl.MaxLayers != 6 || impl.MaxGates != 4 || impl.MaxBits != 4 {
		t.Error(impl.MaxLayers, impl.MaxGates, impl.MaxBits)
	}
}

func TestIsNet(t *testing.T) {
	yes, two, four := planeOf(0, 1), planeOf(0, 1, -1), planeOf(2, 1, 1, 1, 1)
	full := slices.Repeat(gates(four), 4)
	for _, net := range []impl.Net{
		oneGate(yes), oneGate(two), oneGate(planeOf(1, 0, 0, 0)), oneGate(four), oneGate(planeOf(0, 0)), oneGate(planeOf(99, -99, 99)), oneGate(planeOf(-99, 99)),
		netOf(2, gates(two, two)), netOf(2, gates(two), gates(yes)), netOf(2, gates(two, two), gates(two)), netOf(2, gates(two, two, two), gates(planeOf(1, 1, 1, 1))),
		netOf(1, gates(yes, yes, yes, yes), gates(four)), netOf(4, full, full, full, full, full, full), netOf(4, full), netOf(4, gates(four), gates(yes), gates(yes)),
		netOf(1, slices.Repeat([][]impl.Plane{gates(yes)}, 6)...), netOf(3, gates(always(3, 1)), gates(always(1, -1)), gates(always(1, 1))),
	} {
		if !impl.IsNet(net) {
			t.Errorf("%v is no Net", net)
		}
	}
	for _, net := range notNets() {
		if impl.IsNet(net) {
			t.Errorf("%v is a Net", net)
		}
	}
}

// evenNet returns a Net with so many layers of so many gates, in which all Weights are 1.
func evenNet(inputs, layers, size int) impl.Net {
	t, given := netOf(inputs), inputs
	for range layers {
		layer := gates()
		for range size {
			layer = append(layer, planeOf(1, slices.Repeat([]int{1}, given)...))
		}
		t.Layers, given = append(t.Layers, layer), size
	}
	return t
}

// The numbers of Inputs, layers and gates have the limits of the document.
func TestIsNetForAllSizes(t *testing.T) {
	for inputs := range 7 {
		for layers := range 9 {
			for size := range 7 {
				net := evenNet(inputs, layers, size)
				want := inputs >= 1 && inputs <= 4 && layers >= 1 && layers <= 6 && size >= 1 && size <= 4
				if is := impl.IsNet(net); is != want || is != isNetBy(net) {
					t.Errorf("%d Inputs, %d layers of %d gates: %v", inputs, layers, size, is)
				}
			}
		}
	}
}

// Only the number of Inputs with which the gates of the first layer have as many Weights makes a
// list of layers a Net.
func TestInputsOfNets(t *testing.T) {
	eachNet(400, func(net impl.Net) {
		for _, inputs := range []int{-4, -1, 0, 1, 2, 3, 4, 5, 6, math.MinInt, math.MaxInt} {
			other := netOf(inputs, net.Layers...)
			if is := impl.IsNet(other); is != (inputs == net.Inputs) || is != isNetBy(other) {
				t.Fatalf("%v: %v", other, is)
			}
		}
	})
}

// A Net with one more or one fewer Weight in any gate, and with a Weight or a Bound out of its
// limits anywhere, is none; with one at its limits, it is one.
func TestEachGateOfANetIsChecked(t *testing.T) {
	r := rand.New(rand.NewSource(401))
	for range 60 {
		net := drawAnyNet(r)
		if !impl.IsNet(net) {
			t.Fatalf("%v is no Net", net)
		}
		for i, layer := range net.Layers {
			for j := range layer {
				checkGate(t, net, i, j)
			}
		}
	}
}

// checkGate checks what becomes of a Net if a gate changes.
func checkGate(t *testing.T, net impl.Net, i, j int) {
	t.Helper()
	check := func(want bool, change func(p *impl.Plane)) {
		t.Helper()
		other := roomyNet(net)
		change(&other.Layers[i][j])
		if is := impl.IsNet(other); is != want || is != isNetBy(other) {
			t.Fatalf("%v: %v", other, is)
		}
	}
	check(false, func(p *impl.Plane) { p.Weights = append(p.Weights, 0) })
	check(false, func(p *impl.Plane) { p.Weights = p.Weights[1:] })
	check(false, func(p *impl.Plane) { p.Weights = nil })
	for _, number := range []int{99, -99, 0, 100, -100, math.MaxInt, math.MinInt} {
		fine := number >= -99 && number <= 99
		check(fine, func(p *impl.Plane) { p.Bound = number })
		for k := range net.Layers[i][j].Weights {
			check(fine, func(p *impl.Plane) { p.Weights[k] = number })
		}
	}
}

// A Net with one gate more or fewer in a layer is none, unless it is the last layer and there are
// at most 4 and at least one.
func TestEachLayerOfANetIsChecked(t *testing.T) {
	r := rand.New(rand.NewSource(402))
	for range 200 {
		net := drawAnyNet(r)
		for i, layer := range net.Layers {
			last := i == len(net.Layers)-1
			more, fewer, none := roomyNet(net), roomyNet(net), roomyNet(net)
			more.Layers[i] = append(more.Layers[i], layer[0])
			fewer.Layers[i] = layer[1:]
			none.Layers[i] = nil
			if impl.IsNet(more) != (last && len(layer) < 4) || impl.IsNet(fewer) != (last && len(layer) > 1) || impl.IsNet(none) {
				t.Fatalf("%v, the layer %d: %v, %v, %v", net, i, impl.IsNet(more), impl.IsNet(fewer), impl.IsNet(none))
			}
		}
	}
}
