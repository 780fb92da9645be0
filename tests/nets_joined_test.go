package tests

import (
	"math/rand"
	"slices"
	"testing"

	"loop.example/g01135/impl"
)

func TestNegateNet(t *testing.T) {
	for _, c := range []struct{ net, want impl.Net }{
		{oneGate(planeOf(1, 1)), oneGate(planeOf(0, -1))}, {oneGate(planeOf(0, 0)), oneGate(planeOf(1, 0))},
		{oneGate(planeOf(2, 1, -3)), oneGate(planeOf(-1, -1, 3))}, {oneGate(planeOf(99, 99, -99)), oneGate(planeOf(-98, -99, 99))},
		{oneGate(planeOf(-98, 5)), oneGate(planeOf(99, -5))},
		{netOf(1, gates(planeOf(1, 1), planeOf(-5, 0))), netOf(1, gates(planeOf(0, -1), planeOf(6, 0)))},
		// The Bounds of the layers ahead of the last one do not matter.
		{netOf(1, gates(planeOf(-99, 1)), gates(planeOf(1, 1))), netOf(1, gates(planeOf(-99, 1)), gates(planeOf(0, -1)))},
		{netOf(2, gates(planeOf(1, 1, 1), planeOf(2, 1, 1)), gates(planeOf(1, 1, -1))), netOf(2, gates(planeOf(1, 1, 1), planeOf(2, 1, 1)), gates(planeOf(0, -1, 1)))},
	} {
		net, ok := impl.NegateNet(c.net)
		if !ok || !sameText(net, c.want) {
			t.Errorf("%v: %v, %v, not %v", c.net, net, ok, c.want)
		}
	}
	for _, net := range notNegated() {
		if other, ok := impl.NegateNet(net); ok || !impl.IsNet(net) || !sameText(other, impl.Net{}) {
			t.Errorf("%v: %v, %v", net, other, ok)
		}
	}
}

// notNegated returns Nets with a gate in the last layer whose TurnPlane is no Plane.
func notNegated() []impl.Net {
	yes := planeOf(1, 1)
	return []impl.Net{
		oneGate(planeOf(-99, 1)), oneGate(planeOf(-99, 0, 0, 0, 0)), netOf(1, gates(planeOf(-99, 1), yes)), netOf(1, gates(yes, planeOf(-99, 1))),
		netOf(1, gates(yes), gates(yes, yes, yes, planeOf(-99, 1))), netOf(1, gates(yes), gates(planeOf(-99, 1))),
	}
}

// NegateNet turns just the gates of the last layer, so that the Net gives the other numbers, and
// makes of the result the Net again.
func TestNegatedNetsGiveTheOtherNumbers(t *testing.T) {
	eachNet(430, func(net impl.Net) {
		turned, ok := impl.NegateNet(net)
		if fails := slices.ContainsFunc(lastGates(net), func(p impl.Plane) bool { return p.Bound == -99 }); fails {
			if ok {
				t.Fatalf("%v: %v", net, turned)
			}
			return
		}
		last := len(net.Layers) - 1
		if !ok || !impl.IsNet(turned) || turned.Inputs != net.Inputs || len(turned.Layers) != last+1 || !sameText(turned.Layers[:last], net.Layers[:last]) {
			t.Fatalf("%v: %v, %v", net, turned, ok)
		}
		for i, p := range lastGates(net) {
			if want, ok := impl.TurnPlane(p); !ok || !sameText(lastGates(turned)[i], want) {
				t.Fatalf("%v: %v for %v", net, lastGates(turned)[i], p)
			}
		}
		tables, one := impl.NetTables(turned)
		if !one || !sameText(tables, complementsBy(netTablesBy(net))) {
			t.Fatalf("%v has %v, but turned %v", net, netTablesBy(net), tables)
		}
		if again, two := impl.NegateNet(turned); !two || !sameText(again, net) {
			t.Fatalf("%v: turned twice %v, %v", net, again, two)
		}
	})
}

// ofTwo is a Net that is made of two others.
type ofTwo struct{ a, b, want impl.Net }

// checkOfTwo checks a function of two Nets for some of which the result is known, and for some for
// which it fails though each one is valid.
func checkOfTwo(t *testing.T, f func(a, b impl.Net) (impl.Net, bool), bad [][2]impl.Net, known []ofTwo) {
	t.Helper()
	for _, c := range known {
		if net, ok := f(c.a, c.b); !ok || !sameText(net, c.want) {
			t.Errorf("%v and %v: %v, %v, not %v", c.a, c.b, net, ok, c.want)
		}
	}
	for _, pair := range bad {
		net, ok := f(pair[0], pair[1])
		if ok || !impl.IsNet(pair[0]) || !impl.IsNet(pair[1]) || !sameText(net, impl.Net{}) {
			t.Errorf("%v and %v: %v, %v", pair[0], pair[1], net, ok)
		}
	}
}

func TestJoinNets(t *testing.T) {
	yes := planeOf(1, 1)
	parity, _ := impl.ParityNet(2)
	checkOfTwo(t, impl.JoinNets, notJoined(), []ofTwo{
		{oneGate(yes), oneGate(planeOf(0, -1)), netOf(1, gates(yes, planeOf(0, -1)))},
		{oneGate(planeOf(2, 1, 1)), oneGate(planeOf(0, 1, -1)), netOf(2, gates(planeOf(2, 1, 1), planeOf(0, 1, -1)))},
		{netOf(1, gates(yes, yes, yes)), oneGate(planeOf(5, 0)), netOf(1, gates(yes, yes, yes, planeOf(5, 0)))},
		{parity, parity, netOf(2, gates(planeOf(1, 1, 1), planeOf(2, 1, 1), planeOf(1, 1, 1), planeOf(2, 1, 1)), gates(planeOf(1, 1, -1, 0, 0), planeOf(1, 0, 0, 1, -1)))},
		{
			netOf(1, gates(yes), gates(planeOf(2, 3), planeOf(4, 5)), gates(planeOf(6, 7, 8))), netOf(1, gates(planeOf(-1, 1)), gates(planeOf(-2, -3)), gates(planeOf(-4, -5))),
			netOf(1, gates(yes, planeOf(-1, 1)), gates(planeOf(2, 3, 0), planeOf(4, 5, 0), planeOf(-2, 0, -3)), gates(planeOf(6, 7, 8, 0), planeOf(-4, 0, 0, -5))),
		},
	})
}

// notJoined returns Nets with different numbers of Inputs or of layers, and such with too many
// gates in some layer of both together.
func notJoined() [][2]impl.Net {
	yes := planeOf(1, 1)
	parity, _ := impl.ParityNet(3)
	list := [][2]impl.Net{
		{oneGate(yes), oneGate(planeOf(1, 1, 1))}, {oneGate(always(4, 1)), oneGate(always(3, 1))}, {evenNet(2, 2, 2), evenNet(1, 2, 2)},
		{oneGate(yes), netOf(1, gates(yes), gates(yes))}, {evenNet(1, 6, 1), evenNet(1, 5, 1)}, {evenNet(2, 1, 2), evenNet(2, 2, 2)},
		{evenNet(1, 1, 2), evenNet(1, 1, 3)}, {evenNet(1, 1, 4), evenNet(1, 1, 1)}, {evenNet(4, 6, 4), evenNet(4, 6, 4)}, {evenNet(3, 2, 2), evenNet(3, 2, 3)},
		{parity, parity}, // in the first layer only
		{netOf(1, gates(yes), gates(yes, yes)), netOf(1, gates(yes), gates(yes, yes, yes))},
		{evenNet(2, 3, 3), netOf(2, gates(planeOf(1, 1, 1)), gates(yes, yes), gates(planeOf(1, 1, 1)))},
	}
	for _, pair := range list {
		list = append(list, [2]impl.Net{pair[1], pair[0]})
	}
	return list
}

// Promise 9: joined Nets have the tables of both, and so give what both give.
func TestJoinedNetsHaveTheTablesOfBoth(t *testing.T) {
	eachNetPair(431, func(a, b impl.Net) {
		net, ok := impl.JoinNets(a, b)
		if !ok || !impl.IsNet(net) || net.Inputs != a.Inputs || len(net.Layers) != len(a.Layers) {
			t.Fatalf("%v and %v: %v, %v", a, b, net, ok)
		}
		tables, one := impl.NetTables(a)
		others, two := impl.NetTables(b)
		both, three := impl.NetTables(net)
		if !one || !two || !three || !sameText(both, slices.Concat(tables, others)) || !sameText(both, netTablesBy(net)) {
			t.Fatalf("%v has %v, %v has %v, but joined %v", a, tables, b, others, both)
		}
		for _, x := range bitPoints()[:1<<a.Inputs] {
			bits, ok := impl.EvaluateNet(net, x[:a.Inputs])
			if !ok || !slices.Equal(bits, slices.Concat(givesBy(a, x[:a.Inputs]), givesBy(b, x[:a.Inputs]))) {
				t.Fatalf("%v and %v: %v for %v", a, b, bits, x)
			}
		}
		checkJoinedGates(t, a, b, net)
		count, _ := impl.GateCount(net)
		sum, _ := impl.WeightSum(net)
		if count != gateCountBy(a)+gateCountBy(b) || sum != weightSumBy(a)+weightSumBy(b) {
			t.Fatalf("%v and %v: %d gates, the Weights %d", a, b, count, sum)
		}
	})
}

// checkJoinedGates checks that the gates of a joined Net are those of both Nets, but for the
// Weights 0 for what the other one gives.
func checkJoinedGates(t *testing.T, a, b, net impl.Net) {
	t.Helper()
	for i, layer := range net.Layers {
		own, zeros, others := a.Layers[i], 0, 0
		if i > 0 {
			zeros, others = len(b.Layers[i-1]), len(a.Layers[i-1])
		}
		for j, p := range layer {
			want := slices.Concat(own, b.Layers[i])[j]
			if j < len(own) {
				want.Weights = append(slices.Clone(want.Weights), make([]int, zeros)...)
			} else {
				want.Weights = append(make([]int, others), want.Weights...)
			}
			if !sameText(p, want) {
				t.Fatalf("%v and %v: the gate %d of the layer %d is %v, not %v", a, b, j, i, p, want)
			}
		}
	}
}

// Joining is the same in any grouping, and the join of negated Nets is the negated join.
func TestJoinsOfJoinsAndOfNegatedNets(t *testing.T) {
	r := rand.New(rand.NewSource(432))
	count := 0
	for range 300 {
		inputs, layers := 1+r.Intn(4), 1+r.Intn(6)
		nets := [3]impl.Net{}
		for i := range nets {
			nets[i] = drawNet(r, inputs, 3, drawSizes(r, layers, 1+r.Intn(2))...)
		}
		ab, _ := impl.JoinNets(nets[0], nets[1])
		bc, _ := impl.JoinNets(nets[1], nets[2])
		one, fine := impl.JoinNets(ab, nets[2])
		other, ok := impl.JoinNets(nets[0], bc)
		if ok != fine || !sameText(one, other) {
			t.Fatalf("%v: %v, %v; %v, %v", nets, one, fine, other, ok)
		}
		if ok {
			count++
		}
		turned, _ := impl.NegateNet(nets[0])
		last, _ := impl.NegateNet(nets[1])
		one, fine = impl.JoinNets(turned, last)
		other, ok = impl.NegateNet(ab)
		if !ok || !fine || !sameText(one, other) {
			t.Fatalf("%v: %v, %v; %v, %v", nets, one, fine, other, ok)
		}
	}
	if count < 50 {
		t.Error(count)
	}
}

func TestAfterNet(t *testing.T) {
	yes, no := planeOf(1, 1), planeOf(0, -1)
	parity, _ := impl.ParityNet(2)
	checkOfTwo(t, impl.AfterNet, notBehind(), []ofTwo{
		{oneGate(yes), oneGate(no), netOf(1, gates(yes), gates(no))}, {oneGate(no), oneGate(yes), netOf(1, gates(no), gates(yes))},
		{parity, oneGate(no), netOf(2, gates(planeOf(1, 1, 1), planeOf(2, 1, 1)), gates(planeOf(1, 1, -1)), gates(no))},
		{netOf(1, gates(yes, no)), parity, netOf(1, gates(yes, no), gates(planeOf(1, 1, 1), planeOf(2, 1, 1)), gates(planeOf(1, 1, -1)))},
		{oneGate(planeOf(2, 1, 1)), netOf(1, gates(yes, no)), netOf(2, gates(planeOf(2, 1, 1)), gates(yes, no))},
		{evenNet(1, 1, 1), evenNet(1, 5, 1), evenNet(1, 6, 1)}, {evenNet(4, 5, 4), evenNet(4, 1, 4), evenNet(4, 6, 4)}, {evenNet(3, 2, 2), evenNet(2, 3, 2), evenNet(3, 5, 2)},
	})
}

// notBehind returns Nets of which the second one has other Inputs than the last layer of the first
// one has gates, or which have too many layers together.
func notBehind() [][2]impl.Net {
	yes := planeOf(1, 1)
	return [][2]impl.Net{
		{oneGate(yes), oneGate(planeOf(1, 1, 1))}, {oneGate(planeOf(1, 1, 1)), oneGate(planeOf(1, 1, 1))}, {evenNet(1, 1, 3), evenNet(2, 1, 1)},
		{evenNet(1, 1, 3), evenNet(4, 1, 1)}, {netOf(1, gates(yes, yes), gates(planeOf(1, 1, 1))), oneGate(planeOf(1, 1, 1))}, {evenNet(4, 2, 4), evenNet(1, 1, 4)},
		{evenNet(1, 1, 1), evenNet(1, 6, 1)}, {evenNet(1, 6, 1), evenNet(1, 1, 1)}, {evenNet(2, 3, 2), evenNet(2, 4, 2)}, {evenNet(4, 6, 4), evenNet(4, 6, 4)},
	}
}

// A Net behind another one gives what it gives for what this one gives.
func TestNetsBehindOthersGiveWhatTheyAreGiven(t *testing.T) {
	r := rand.New(rand.NewSource(433))
	for first := 1; first <= 6; first++ {
		for second := 1; second <= 6; second++ {
			for range 20 {
				a := drawNet(r, 1+r.Intn(4), drawLimit(r), drawSizes(r, first, 4)...)
				b := drawNet(r, len(lastGates(a)), drawLimit(r), drawSizes(r, second, 4)...)
				checkBehind(t, a, b)
			}
		}
	}
}

// checkBehind checks AfterNet of two Nets, the second one of which fits behind the first one but
// for the number of layers.
func checkBehind(t *testing.T, a, b impl.Net) {
	t.Helper()
	net, ok := impl.AfterNet(a, b)
	if want := len(a.Layers)+len(b.Layers) <= 6; ok != want || !want {
		if ok != want || !sameText(net, impl.Net{}) {
			t.Fatalf("%v and %v: %v, %v", a, b, net, ok)
		}
		return
	}
	if !impl.IsNet(net) || net.Inputs != a.Inputs || !sameText(net.Layers, slices.Concat(a.Layers, b.Layers)) {
		t.Fatalf("%v and %v: %v", a, b, net)
	}
	for _, x := range bitPoints()[:1<<a.Inputs] {
		x = x[:a.Inputs]
		given, one := impl.EvaluateNet(a, x)
		bits, two := impl.EvaluateNet(b, given)
		whole, three := impl.EvaluateNet(net, x)
		if !one || !two || !three || !slices.Equal(whole, bits) || !slices.Equal(bits, givesBy(b, givesBy(a, x))) {
			t.Fatalf("%v and %v: %v, then %v, but %v", a, b, given, bits, whole)
		}
	}
	count, _ := impl.GateCount(net)
	sum, _ := impl.WeightSum(net)
	if count != gateCountBy(a)+gateCountBy(b) || sum != weightSumBy(a)+weightSumBy(b) {
		t.Fatalf("%v and %v: %d gates, the Weights %d", a, b, count, sum)
	}
}

// A negated Net is the Net with gates for "not" behind it, by its tables, and a Net behind two
// others is the same in any grouping.
func TestNetsBehindNets(t *testing.T) {
	r := rand.New(rand.NewSource(434))
	for range 300 {
		a := drawNet(r, 1+r.Intn(4), 3, drawSizes(r, 1+r.Intn(2), 4)...)
		b := drawNet(r, len(lastGates(a)), 3, drawSizes(r, 1+r.Intn(2), 4)...)
		c := drawNet(r, len(lastGates(b)), 3, drawSizes(r, 1+r.Intn(2), 4)...)
		ab, one := impl.AfterNet(a, b)
		bc, two := impl.AfterNet(b, c)
		left, three := impl.AfterNet(ab, c)
		right, four := impl.AfterNet(a, bc)
		if !one || !two || !three || !four || !sameText(left, right) {
			t.Fatalf("%v, %v and %v: %v; %v", a, b, c, left, right)
		}
		turned, one := impl.NegateNet(a)
		tables, two := impl.NetTables(turned)
		behind, three := impl.AfterNet(a, notEach(len(lastGates(a))))
		others, four := impl.NetTables(behind)
		if !one || !two || !three || !four || !sameText(tables, others) {
			t.Fatalf("%v: negated %v, behind it %v", a, tables, others)
		}
	}
}

// notEach returns the Net of one layer that gives each number as the other one.
func notEach(n int) impl.Net {
	layer := gates()
	for i := range n {
		weights := make([]int, n)
		weights[i] = -1
		layer = append(layer, planeOf(0, weights...))
	}
	return netOf(n, layer)
}
