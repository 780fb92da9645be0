package tests

import (
	"fmt"
	"math"
	"math/rand"
	"slices"
	"sync"

	"loop.example/g01135/impl"
)

// The functions of this file follow the document's definitions of chapter 9 apart from the
// program.

func netOf(inputs int, layers ...[]impl.Plane) impl.Net {
	return impl.Net{Inputs: inputs, Layers: layers}
}

func gates(planes ...impl.Plane) []impl.Plane { return planes }

// oneGate returns the Net of a single gate.
func oneGate(p impl.Plane) impl.Net { return netOf(len(p.Weights), gates(p)) }

func lastGates(t impl.Net) []impl.Plane { return t.Layers[len(t.Layers)-1] }

// roomyNet returns a Net whose lists all have room behind their ends.
func roomyNet(t impl.Net) impl.Net {
	layers := [][]impl.Plane{}
	for _, layer := range t.Layers {
		layers = append(layers, roomyJury(layer))
	}
	return impl.Net{Inputs: t.Inputs, Layers: roomy(layers, gates(planeOf(60, 61)))}
}

// isNetBy tells by the document's definition whether a Net is valid.
func isNetBy(t impl.Net) bool {
	if t.Inputs < 1 || t.Inputs > 4 || len(t.Layers) == 0 || len(t.Layers) > 6 {
		return false
	}
	widths := []int{t.Inputs}
	for i, layer := range t.Layers {
		widths = append(widths, len(layer))
		if len(layer) == 0 || len(layer) > 4 {
			return false
		}
		for _, p := range layer {
			numbers := append(slices.Clone(p.Weights), p.Bound)
			if len(p.Weights) != widths[i] || slices.Min(numbers) < -99 || slices.Max(numbers) > 99 {
				return false
			}
		}
	}
	return true
}

// givesBy returns what a Net gives for a bit point.
func givesBy(t impl.Net, x []int) []int {
	for _, layer := range t.Layers {
		next := []int{}
		for _, p := range layer {
			bit := 0
			if sideBy(p, x) == 1 {
				bit = 1
			}
			next = append(next, bit)
		}
		x = next
	}
	return x
}

// netTablesBy returns the tables of a Net.
func netTablesBy(t impl.Net) [][]int {
	tables := make([][]int, len(lastGates(t)))
	for _, x := range bitPoints()[:1<<t.Inputs] {
		for i, bit := range givesBy(t, x[:t.Inputs]) {
			tables[i] = append(tables[i], bit)
		}
	}
	return tables
}

// complementsBy returns tables with the other numbers.
func complementsBy(tables [][]int) [][]int {
	others := [][]int{}
	for _, table := range tables {
		others = append(others, complementBy(table))
	}
	return others
}

// gateCountBy and weightSumBy return the number of gates of a Net, and the sum of their Weights
// without signs.
func gateCountBy(t impl.Net) int {
	count := 0
	for _, layer := range t.Layers {
		for range layer {
			count++
		}
	}
	return count
}

func weightSumBy(t impl.Net) int {
	sum := 0
	for _, layer := range t.Layers {
		for _, p := range layer {
			sum += sizeBy(p.Weights)
		}
	}
	return sum
}

// drawNet returns a Net with layers of so many gates, whose Weights are in -limit..limit and whose
// Bounds mostly are near enough to make a difference.
func drawNet(r *rand.Rand, inputs, limit int, sizes ...int) impl.Net {
	t, given := netOf(inputs), inputs
	for _, size := range sizes {
		layer := gates()
		for range size {
			layer = append(layer, planeOf(r.Intn(2*limit+3)-limit-1, randomList(r, given, limit)...))
		}
		t.Layers, given = append(t.Layers, layer), size
	}
	return t
}

// drawSizes returns so many numbers of gates of a layer, each at most most.
func drawSizes(r *rand.Rand, layers, most int) []int {
	sizes := []int{}
	for range layers {
		sizes = append(sizes, 1+r.Intn(most))
	}
	return sizes
}

// drawLimit returns a limit for Weights.
func drawLimit(r *rand.Rand) int { return []int{0, 1, 1, 2, 3, 9, 98}[r.Intn(7)] }

// drawAnyNet returns a Net with any number of Inputs, layers and gates.
func drawAnyNet(r *rand.Rand) impl.Net {
	return drawNet(r, 1+r.Intn(4), drawLimit(r), drawSizes(r, 1+r.Intn(6), 4)...)
}

// drawStripes returns a Net like a ParityNet, with other Weights in the first layer. Many have
// tables that are no threshold tables.
func drawStripes(r *rand.Rand, inputs int) impl.Net {
	weights, bound := randomList(r, inputs, 2), r.Intn(3)-1
	layer := gates()
	for i := range 4 {
		layer = append(layer, planeOf(bound+i, weights...))
	}
	return netOf(inputs, layer, gates(planeOf(1, 1, -1, 1, -1)))
}

// eachNet calls a function with all Nets of one gate with small Weights, and with drawn ones of any
// number of Inputs, layers and gates.
func eachNet(seed int64, call func(t impl.Net)) {
	for d, limit := range []int{0, 3, 2, 1, 1} {
		for _, weights := range listsWithin(d, limit) {
			for bound := -3; bound <= 4 && d > 0; bound++ {
				call(oneGate(planeOf(bound, weights...)))
			}
		}
	}
	r := rand.New(rand.NewSource(seed))
	for inputs := 1; inputs <= 4; inputs++ {
		for layers := 1; layers <= 6; layers++ {
			for range 30 {
				call(drawNet(r, inputs, drawLimit(r), drawSizes(r, layers, 1+r.Intn(4))...))
			}
			call(drawNet(r, inputs, 2, slices.Repeat([]int{1}, layers)...))
			call(drawNet(r, inputs, 2, slices.Repeat([]int{4}, layers)...))
		}
		for range 40 {
			call(drawStripes(r, inputs))
		}
	}
}

// eachNetPair calls a function with drawn Nets a and b with the same number of Inputs and of
// layers, and with at most 4 gates in both layers together.
func eachNetPair(seed int64, call func(a, b impl.Net)) {
	r := rand.New(rand.NewSource(seed))
	for inputs := 1; inputs <= 4; inputs++ {
		for layers := 1; layers <= 6; layers++ {
			for range 20 {
				sizes, others := drawSizes(r, layers, 3), []int{}
				for _, size := range sizes {
					others = append(others, 1+r.Intn(4-size))
				}
				call(drawNet(r, inputs, drawLimit(r), sizes...), drawNet(r, inputs, drawLimit(r), others...))
			}
		}
	}
}

// thresholdsBy returns all threshold tables of n bits in lexicographic order.
func thresholdsBy(n int) [][]int { return sortedThresholds()[n] }

var sortedThresholds = sync.OnceValue(func() [][][]int {
	all := make([][][]int, 4)
	eachTable(0, 3, func(n int, table []int) {
		if _, ok := weighedBy(n)[fmt.Sprint(table)]; ok {
			all[n] = append(all[n], table)
		}
	})
	for _, tables := range all {
		slices.SortFunc(tables, slices.Compare)
	}
	return all
})

// thirdBy returns the table of the numbers that a third table has for two tables.
func thirdBy(one, two, three []int) []int {
	table := []int{}
	for k := range one {
		table = append(table, three[placeBy([]int{one[k], two[k]})])
	}
	return table
}

// pairsBy returns the first pair of each table of n bits that has one, by the table's text.
func pairsBy(n int) map[string][][]int { return allPairs()[n] }

var allPairs = sync.OnceValue(func() []map[string][][]int {
	list := []map[string][][]int{}
	for n := range 4 {
		list = append(list, firstPairs(n))
	}
	return list
})

func firstPairs(n int) map[string][][]int {
	first := map[string][][]int{}
	for _, one := range thresholdsBy(n) {
		for _, two := range thresholdsBy(n) {
			for _, three := range thresholdsBy(2) {
				text := fmt.Sprint(thirdBy(one, two, three))
				if _, ok := first[text]; !ok {
					first[text] = [][]int{one, two, three}
				}
			}
		}
	}
	return first
}

// neededBy returns how many gates a table of n bits needs: 1, 2, or 3 for more than 2.
func neededBy(n int, table []int) int {
	text := fmt.Sprint(table)
	if _, ok := weighedBy(n)[text]; ok {
		return 1
	}
	if _, ok := pairsBy(n)[text]; ok {
		return 2
	}
	return 3
}

// notNets returns Nets that are not valid.
func notNets() []impl.Net {
	yes, two := planeOf(0, 1), planeOf(0, 1, 1)
	list := []impl.Net{
		{}, netOf(1), netOf(4), netOf(2, gates()), netOf(2, gates(), gates()), netOf(2, nil, nil), netOf(0, gates(yes)), netOf(0, gates(impl.Plane{})),
		netOf(-1, gates(yes)), netOf(math.MaxInt, gates(yes)), netOf(math.MinInt, gates(yes)), netOf(2, gates(yes)), netOf(1, gates(two)),
		netOf(3, gates(two)), netOf(5, gates(always(5, 1))), netOf(6, gates(always(6, 1))), netOf(2, gates(two, yes)), netOf(2, gates(yes, two)),
		netOf(2, gates(two), gates(two)), netOf(2, gates(two, two), gates(yes)), netOf(2, gates(two), gates()), netOf(2, gates(), gates(yes)),
		netOf(2, gates(two), gates(), gates(yes)), netOf(2, gates(two), gates(), gates(impl.Plane{})), netOf(2, gates(two), nil),
		netOf(2, gates(two, two, two, two, two)), netOf(2, gates(two, two, two, two, two), gates(always(5, 1))), netOf(2, gates(two), gates(yes, yes, yes, yes, yes)),
		netOf(2, gates(two), gates(yes, two)), netOf(2, gates(two), gates(two, yes)), netOf(2, gates(two), gates(yes), gates(two)),
		netOf(1, slices.Repeat([][]impl.Plane{gates(yes)}, 7)...), netOf(1, slices.Repeat([][]impl.Plane{gates(yes)}, 8)...), netOf(1, make([][]impl.Plane, 100)...),
		netOf(2, slices.Repeat(gates(two), 1000)),
	}
	for _, p := range notPlanes() {
		list = append(list, oneGate(p), netOf(2, gates(p)), netOf(2, gates(two, p)), netOf(2, gates(two, two), gates(p)), netOf(2, gates(two, two), gates(p, two)))
	}
	return list
}
