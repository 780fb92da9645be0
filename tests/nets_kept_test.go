package tests

import (
	"math/rand"
	"slices"
	"testing"

	"loop.example/g01135/impl"
)

// The tests of this file check what chapters 2, 5 and 6 promise together with the Nets of chapter 9.

// The Net of a single gate gives the side of the gate, and has its PlaneTable, which is a threshold
// table; negated it is that of the TurnPlane; and its SinglePlane is the LeastPlane of the table.
func TestNetsOfOneGateAreLikeTheirPlanes(t *testing.T) {
	check := func(p impl.Plane) {
		net, n := oneGate(p), len(p.Weights)
		table, one := impl.PlaneTable(p)
		tables, two := impl.NetTables(net)
		threshold, three := impl.IsThreshold(n, table)
		if !one || !two || !three || !threshold || !sameText(tables, [][]int{table}) {
			t.Fatalf("%v has %v, but its Net %v", p, table, tables)
		}
		for k := range table {
			x, _ := impl.BitPoint(n, k)
			side, one := impl.SideOf(p, x)
			bits, two := impl.EvaluateNet(net, x)
			if !one || !two || len(bits) != 1 || 2*bits[0]-1 != side {
				t.Fatalf("%v has the side %d of %v, but its Net gives %v", p, side, x, bits)
			}
		}
		single, one := impl.SinglePlane(net)
		least, two := impl.LeastPlane(n, table)
		s, three := impl.TableSample(n, table)
		fits, four := impl.FitsSample(s, single)
		if !one || !two || !three || !four || !fits || !sameText(single, least) {
			t.Fatalf("%v: %v and %v; it fits: %v", p, single, least, fits)
		}
		turned, one := impl.TurnPlane(p)
		other, two := impl.NegateNet(net)
		if one != two || one && !sameText(other, oneGate(turned)) {
			t.Fatalf("%v: %v, %v; %v, %v", p, turned, one, other, two)
		}
	}
	r := rand.New(rand.NewSource(450))
	for d := 1; d <= 4; d++ {
		for _, limit := range []int{1, 3, 9, 99} {
			for range 100 {
				check(randomPlane(r, d, limit))
			}
		}
		check(planeOf(-99, make([]int, d)...))
		check(planeOf(99, slices.Repeat([]int{99}, d)...))
	}
}

// Each threshold table is that of the Net of its LeastPlane alone, and no other table is that of a
// Net of one layer.
func TestTablesOfNetsOfOneLayer(t *testing.T) {
	eachTable(1, 4, func(n int, table []int) {
		p, ok := impl.LeastPlane(n, table)
		if !ok {
			return
		}
		tables, one := impl.NetTables(oneGate(p))
		if !one || !sameText(tables, [][]int{table}) {
			t.Fatalf("%v: the Net of %v has %v", table, p, tables)
		}
	})
	eachNet(451, func(net impl.Net) {
		if len(net.Layers) > 1 {
			return
		}
		tables, ok := impl.NetTables(net)
		for i, table := range tables {
			own, fine := impl.PlaneTable(net.Layers[0][i])
			threshold, _ := impl.IsThreshold(net.Inputs, table)
			if _, traded := impl.FindTrade(net.Inputs, table); !ok || !fine || !threshold || traded || !slices.Equal(table, own) {
				t.Fatalf("%v: %v, and its gates have %v", net, tables, own)
			}
		}
	})
}

// Each layer but the first one has the sides of its gates for what the Net without it gives.
func TestSidesOfLaterLayers(t *testing.T) {
	eachNet(452, func(net impl.Net) {
		last := len(net.Layers) - 1
		if last == 0 {
			return
		}
		before := netOf(net.Inputs, net.Layers[:last]...)
		for k := range 1 << net.Inputs {
			x, _ := impl.BitPoint(net.Inputs, k)
			given, one := impl.EvaluateNet(before, x)
			bits, two := impl.EvaluateNet(net, x)
			for i, p := range net.Layers[last] {
				side, three := impl.SideOf(p, given)
				if !one || !two || !three || 2*bits[i]-1 != side {
					t.Fatalf("%v: %v, then %v for %v, but the side %d", net, given, bits, x, side)
				}
			}
		}
	})
}

// bitsNet returns the Net of one layer that gives, at each place to[i], the Input i, or the other
// number if the set has i.
func bitsNet(to, set []int) impl.Net {
	layer := make([]impl.Plane, len(to))
	for i, place := range to {
		weights := make([]int, len(to))
		weights[i] = 1
		layer[place] = planeOf(1, weights...)
		if slices.Contains(set, i) {
			weights[i] = -1
			layer[place] = planeOf(0, weights...)
		}
	}
	return netOf(len(to), layer)
}

// A Net behind one that turns or permutes its Inputs has the tables with the bits flipped or
// permuted, and a negated one behind one that turns all of them has the dual tables.
func TestNetsBehindChangedInputs(t *testing.T) {
	r := rand.New(rand.NewSource(453))
	eachNet(454, func(net impl.Net) {
		if len(net.Layers) == 6 || r.Intn(3) > 0 {
			return
		}
		n := net.Inputs
		all := placesBesides(n, nil)
		sets := setsOf(n, n)
		set, order := sets[r.Intn(len(sets))], r.Perm(n)
		check := func(name string, start, behind impl.Net, change func(table []int) ([]int, bool)) {
			both, one := impl.AfterNet(start, behind)
			changed, two := impl.NetTables(both)
			if !one || !two {
				t.Fatalf("%s, %v: %v, %v", name, behind, both, changed)
			}
			for i, table := range netTablesBy(net) {
				if want, ok := change(table); !ok || !slices.Equal(changed[i], want) {
					t.Fatalf("%s, %v, %v: %v for %v", name, start, net, changed[i], table)
				}
			}
		}
		check("flipped", bitsNet(all, set), net, func(table []int) ([]int, bool) { return impl.FlipBits(n, table, set) })
		check("permuted", bitsNet(order, nil), net, func(table []int) ([]int, bool) { return impl.PermuteBits(n, table, order) })
		if turned, ok := impl.NegateNet(net); ok {
			check("dual", bitsNet(all, all), turned, func(table []int) ([]int, bool) { return impl.DualTable(n, table) })
		}
	})
}

// What DualTable, FlipBits and PermuteBits make of a table needs as many gates as the table, and
// so does the table with the other numbers.
func TestChangedTablesNeedAsManyGates(t *testing.T) {
	eachTable(1, 3, func(n int, table []int) {
		needed, ok := impl.GatesNeeded(n, table)
		check := func(name string, changed []int, fine bool) {
			other, two := impl.GatesNeeded(n, changed)
			if !ok || !fine || !two || other != needed {
				t.Fatalf("%v needs %d, but %s, %v, %d", table, needed, name, changed, other)
			}
		}
		check("turned", complementBy(table), true)
		dual, fine := impl.DualTable(n, table)
		check("dual", dual, fine)
		all := placesBesides(n, nil)
		flipped, fine := impl.FlipBits(n, table, all[1:])
		check("flipped", flipped, fine)
		slices.Reverse(all)
		permuted, fine := impl.PermuteBits(n, table, all)
		check("permuted", permuted, fine)
	})
}

// The table of a MajorityNet is that of a Vote (chapter 6) by majority. It is rising in each bit, and
// its own dual just for an odd number of bits.
func TestTablesOfMajorityNets(t *testing.T) {
	for n := 1; n <= 4; n++ {
		net, _ := impl.MajorityNet(n)
		tables, one := impl.NetTables(net)
		signs, two := impl.BitSigns(n, tables[0])
		dual, three := impl.DualTable(n, tables[0])
		if !one || !two || !three || !slices.Equal(signs, slices.Repeat([]int{1}, n)) || slices.Equal(dual, tables[0]) != (n%2 == 1) {
			t.Errorf("%d: %v, %v, %v", n, tables, signs, dual)
		}
		vote, four := impl.VoteTable(voteOf(n/2+1, slices.Repeat([]int{1}, n)...))
		if !four || !slices.Equal(vote, tables[0]) {
			t.Errorf("%d: %v, but the Vote has %v", n, tables, vote)
		}
	}
}
