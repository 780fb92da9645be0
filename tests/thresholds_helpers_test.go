package tests

import (
	"fmt"
	"slices"
	"sync"

	"loop.example/g01135/impl"
)

// The functions of this file follow the document's definitions of chapter 5 apart from the
// program.

// tableOf returns the table of n bits whose numbers are the binary digits of a number.
func tableOf(n, number int) []int { return digits(number, 2, 1<<n) }

// eachTable calls a function with all tables of from up to to bits, each in memory of its own.
func eachTable(from, to int, call func(n int, table []int)) {
	for n := from; n <= to; n++ {
		for number := range 1 << (1 << n) {
			call(n, tableOf(n, number))
		}
	}
}

// placeBy returns the place with a bit point.
func placeBy(x []int) int {
	place := 0
	for _, bit := range slices.Backward(x) {
		place = 2*place + bit
	}
	return place
}

func onesBy(table []int) []int { return placesAbove(table) }

// othersBy returns the places that are no ones.
func othersBy(table []int) []int {
	others := []int{}
	for k, bit := range table {
		if bit == 0 {
			others = append(others, k)
		}
	}
	return others
}

func complementBy(table []int) []int {
	turned := []int{}
	for _, bit := range table {
		turned = append(turned, 1-bit)
	}
	return turned
}

// sizeBy returns the sum of weights without their signs.
func sizeBy(weights []int) int {
	sum := 0
	for _, n := range weights {
		if n < 0 {
			n = -n
		}
		sum += n
	}
	return sum
}

// weighed is the size of a threshold table, and its least Plane; that of a table of no bits has
// no Weights.
type weighed struct {
	size  int
	plane impl.Plane
}

// mostWeights is the greatest size for which weighedBy looks. It is no less than all sizes that
// it finds, so that no Weights that it leaves out have a less size.
const mostWeights = 9

// weighedBy returns what is known of each threshold table of n bits, by the table's text.
func weighedBy(n int) map[string]weighed { return weighedTables()[n] }

var weighedTables = sync.OnceValue(func() []map[string]weighed {
	list := []map[string]weighed{}
	for n := range 5 {
		list = append(list, weighTables(n))
	}
	return list
})

func weighTables(n int) map[string]weighed {
	known := map[string]weighed{}
	for _, weights := range listsWithin(n, mostWeights) {
		size := sizeBy(weights)
		if size > mostWeights {
			continue
		}
		products := productsBy(weights)
		for _, bound := range append(slices.Clone(products), slices.Max(products)+1) {
			text := fmt.Sprint(tableBy(products, bound))
			if before, ok := known[text]; !ok || size < before.size {
				known[text] = weighed{size, planeOf(bound, weights...)}
			}
		}
	}
	return known
}

// productsBy returns the products of weights and the bit points of as many bits.
func productsBy(weights []int) []int {
	products := []int{}
	for _, x := range bitPoints()[:1<<len(weights)] {
		sum := 0
		for i, w := range weights {
			sum += w * x[i]
		}
		products = append(products, sum)
	}
	return products
}

func tableBy(products []int, bound int) []int {
	table := make([]int, len(products))
	for k, n := range products {
		if n >= bound {
			table[k] = 1
		}
	}
	return table
}

// codeBy returns a number that is the same for two pairs of places exactly if their bit points
// have the same sum: the digits of this sum are 0, 1 and 2.
func codeBy(a, b int) int {
	code := 0
	for i, bit := range slices.Backward(bitPoints()[a]) {
		code = 3*code + bit + bitPoints()[b][i]
	}
	return code
}

var codes = sync.OnceValue(func() [16][16]int {
	list := [16][16]int{}
	for a := range 16 {
		for b := range 16 {
			list[a][b] = codeBy(a, b)
		}
	}
	return list
})

// firstTradeBy returns the first trade of a table, and nil if there is none.
func firstTradeBy(table []int) []int {
	known, ones, others := codes(), onesBy(table), othersBy(table)
	for i, a := range ones {
		for _, b := range ones[i:] {
			for j, c := range others {
				for _, d := range others[j:] {
					if known[a][b] == known[c][d] {
						return []int{a, b, c, d}
					}
				}
			}
		}
	}
	return nil
}

// isTradeBy tells by the document's definition whether a list is a trade of a table.
func isTradeBy(table, trade []int) bool {
	if len(trade) != 4 || slices.Min(trade) < 0 || slices.Max(trade) >= len(table) {
		return false
	}
	a, b, c, d := trade[0], trade[1], trade[2], trade[3]
	ones := table[a] == 1 && table[b] == 1
	others := table[c] == 0 && table[d] == 0
	return a <= b && c <= d && ones && others && codes()[a][b] == codes()[c][d]
}

// edgesBy returns the pairs of places of n bits whose bit points differ in a bit alone, that
// with 0 there first.
func edgesBy(n, bit int) [][2]int {
	edges := [][2]int{}
	points := bitPoints()[:1<<n]
	for k, x := range points {
		if x[bit] == 1 {
			continue
		}
		y := slices.Clone(x)
		y[bit] = 1
		other := slices.IndexFunc(points, func(point []int) bool { return slices.Equal(point, y) })
		edges = append(edges, [2]int{k, other})
	}
	return edges
}

// bitKind is what a bit does in a table.
type bitKind struct {
	rising, falling bool
	influence       int
}

// bitKinds returns by the document's definitions what each bit does in a table, where edges has
// the result of edgesBy for each one.
func bitKinds(table []int, edges [][][2]int) []bitKind {
	kinds := []bitKind{}
	for _, pairs := range edges {
		kind := bitKind{rising: true, falling: true}
		for _, pair := range pairs {
			low, high := table[pair[0]] == 1, table[pair[1]] == 1
			if low && !high {
				kind.rising = false
			}
			if high && !low {
				kind.falling = false
			}
			if low != high {
				kind.influence++
			}
		}
		kinds = append(kinds, kind)
	}
	return kinds
}

// allEdges returns the result of edgesBy for each one of n bits.
func allEdges(n int) [][][2]int {
	edges := [][][2]int{}
	for bit := range n {
		edges = append(edges, edgesBy(n, bit))
	}
	return edges
}

// ordersOf returns all lists that have each of the numbers 0..n-1 once.
func ordersOf(n int) [][]int {
	all := [][]int{{}}
	for k := range n {
		longer := [][]int{}
		for _, order := range all {
			for at := range k + 1 {
				longer = append(longer, slices.Insert(slices.Clone(order), at, k))
			}
		}
		all = longer
	}
	return all
}
