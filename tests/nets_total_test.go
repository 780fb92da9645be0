package tests

import (
	"fmt"
	"math"
	"math/rand"
	"slices"
	"testing"

	"loop.example/g01135/impl"
)

func netsOf(list ...impl.Net) []any { return values(list...) }

// twoInTwo returns a Net with 2 Inputs and two layers of 2 gates.
func twoInTwo() impl.Net {
	return roomyNet(netOf(2, gates(planeOf(1, 1, 1), planeOf(2, 1, 1)), gates(planeOf(1, 1, -1), planeOf(0, 0, -1))))
}

// oneOfTwo returns a Net like this one with one gate in the last layer and the table of "both".
func oneOfTwo() impl.Net {
	return roomyNet(netOf(2, gates(planeOf(1, 1, 0), planeOf(1, 0, 1)), gates(planeOf(2, 1, 1))))
}

// roomyDrawn returns a drawn Net with room behind its lists.
func roomyDrawn(r *rand.Rand, inputs int, sizes ...int) impl.Net {
	return roomyNet(drawNet(r, inputs, drawLimit(r), sizes...))
}

func drawAnyRoomy(r *rand.Rand) []any { return []any{roomyNet(drawAnyNet(r))} }

// netContracts returns those of the functions of a Net alone and of lists for it.
func netContracts() []contract {
	ofNet := func(name string, f any) contract {
		return contract{name: name, f: f, valid: []any{twoInTwo()}, wrong: [][]any{netsOf(notNets()...)}, draw: drawAnyRoomy}
	}
	single := ofNet("SinglePlane", impl.SinglePlane)
	single.valid, single.wrong = []any{oneOfTwo()}, [][]any{netsOf(append(noSinglePlanes(), notNets()...)...)}
	single.draw = func(r *rand.Rand) []any { return []any{roomyDrawn(r, 1+r.Intn(3), 1+r.Intn(4), 1+r.Intn(2))} }
	negate := ofNet("NegateNet", impl.NegateNet)
	negate.wrong = [][]any{netsOf(append(notNegated(), notNets()...)...)}
	return []contract{
		ofNet("IsNet", impl.IsNet), ofNet("NetTables", impl.NetTables), ofNet("GateCount", impl.GateCount), ofNet("WeightSum", impl.WeightSum), single, negate,
		{
			name: "EvaluateNet", f: impl.EvaluateNet, valid: []any{twoInTwo(), roomy([]int{1, 0}, 90)},
			wrong: [][]any{
				append(netsOf(notNets()...), netsOf(evenNet(1, 2, 2), evenNet(3, 2, 2), evenNet(4, 1, 1))...),
				intLists(nil, []int{}, []int{0}, []int{1}, []int{0, 0, 0}, make([]int, 4), make([]int, 100), []int{0, 2}, []int{-1, 0}, []int{math.MaxInt, 1}, []int{0, math.MinInt}),
			},
			misfit: [][]any{{impl.Net{}, []int{}}, {netOf(0, gates(impl.Plane{})), []int{}}, {netOf(5, gates(always(5, 1))), make([]int, 5)}, {oneGate(always(4, 1)), make([]int, 5)}},
			draw: func(r *rand.Rand) []any {
				net := drawAnyNet(r)
				x := bitPoints()[r.Intn(16)][:(net.Inputs+r.Intn(6)/5)%5]
				return []any{roomyNet(net), roomy(slices.Clone(x), 91)}
			},
		},
	}
}

// numberContracts returns those of the functions of a number.
func numberContracts() []contract {
	ofInputs := func(name string, f any) contract {
		return contract{name: name, f: f, valid: []any{4}, wrong: [][]any{badInputs()}, draw: func(r *rand.Rand) []any { return []any{r.Intn(6)} }}
	}
	compare := ofInputs("CompareNet", impl.CompareNet)
	compare.valid, compare.wrong = []any{2}, [][]any{badPairs()}
	return []contract{ofInputs("ParityNet", impl.ParityNet), ofInputs("MajorityNet", impl.MajorityNet), compare}
}

// pairsOfNets returns Nets as lists of arguments.
func pairsOfNets(pairs [][2]impl.Net) [][]any {
	lists := [][]any{}
	for _, pair := range pairs {
		lists = append(lists, []any{pair[0], pair[1]})
	}
	return lists
}

// joinContracts returns those of the functions of two Nets. Both also get lists that are no Nets,
// but would make one together with the other one.
func joinContracts() []contract {
	others := netsOf(evenNet(1, 2, 2), evenNet(3, 2, 2), evenNet(2, 1, 2), evenNet(2, 3, 1), evenNet(2, 2, 3), evenNet(2, 2, 4))
	wrong := append(netsOf(notNets()...), others...)
	fit := netsOf(evenNet(1, 2, 1), evenNet(2, 3, 3), evenNet(3, 2, 1))
	two := gates(planeOf(1, 1, 1), planeOf(2, 1, 1))
	none := [][]any{
		{netOf(2), evenNet(2, 2, 2)}, {evenNet(2, 2, 2), netOf(2)}, {netOf(2), netOf(2)}, {impl.Net{}, impl.Net{}}, {netOf(2), impl.Net{}},
		{netOf(2, two, gates()), netOf(2, two, two)}, {netOf(2, two, two), netOf(2, two, gates())}, {netOf(0, gates(impl.Plane{})), netOf(0, gates(impl.Plane{}))},
		{netOf(2, gates(), two), netOf(2, two, gates(planeOf(0, 1, 1)))}, {netOf(1, two), netOf(1, two)}, {netOf(2, two, gates(planeOf(1, 1))), netOf(2, gates(planeOf(1, 1, 1)), two)},
	}
	return []contract{
		{
			name: "JoinNets", f: impl.JoinNets, valid: []any{twoInTwo(), twoInTwo()}, wrong: [][]any{wrong, wrong},
			misfit: slices.Concat(none, pairsOfNets(notJoined())),
			draw: func(r *rand.Rand) []any {
				inputs, layers := 1+r.Intn(4), 1+r.Intn(3)
				a, b := roomyDrawn(r, inputs, drawSizes(r, layers, 3)...), roomyDrawn(r, inputs, drawSizes(r, layers, 2)...)
				return []any{a, b}
			},
		},
		{
			name: "AfterNet", f: impl.AfterNet, valid: []any{twoInTwo(), twoInTwo()},
			wrong:  [][]any{append(netsOf(notNets()...), fit...), append(netsOf(notNets()...), netsOf(evenNet(1, 1, 1), evenNet(3, 1, 1), evenNet(4, 2, 2), evenNet(2, 5, 1), evenNet(2, 6, 2))...)},
			misfit: slices.Concat(none, pairsOfNets(notBehind())),
			draw: func(r *rand.Rand) []any {
				a := roomyDrawn(r, 1+r.Intn(4), drawSizes(r, 1+r.Intn(4), 4)...)
				return []any{a, roomyDrawn(r, len(lastGates(a)), drawSizes(r, 1+r.Intn(4), 4)...)}
			},
		},
	}
}

// shortContracts returns those of the functions of a table of up to 3 bits.
func shortContracts() []contract {
	odd := oddTables()
	ofTable := func(name string, f any) contract {
		return contract{
			name: name, f: f, valid: []any{2, oddTable()}, wrong: [][]any{badBitCounts(), notTables()},
			misfit: [][]any{{0, []int{0}}, {0, []int{1}}, {0, []int{}}, {4, make([]int, 16)}, {5, make([]int, 32)}, {6, make([]int, 64)}, {1, []int{0, 2}}, {3, make([]int, 7)}, {-1, []int{}}},
			draw:   func(r *rand.Rand) []any { n := 1 + r.Intn(4); return []any{n, roomy(tableOf(n, r.Int()), 92)} },
		}
	}
	return []contract{
		withMisfits(ofTable("FindPair", impl.FindPair), []any{3, odd[0]}, []any{3, odd[1]}), ofTable("GatesNeeded", impl.GatesNeeded),
		withMisfits(ofTable("NetOfPair", impl.NetOfPair), []any{3, odd[0]}, []any{3, odd[1]}),
	}
}

func allNetContracts() []contract {
	return slices.Concat(netContracts(), numberContracts(), joinContracts(), shortContracts())
}

// Promise 13: each function fails for each argument that is not valid, with zero values.
func TestFunctionsOfNetsFail(t *testing.T) {
	for _, c := range allNetContracts() {
		checkContract(t, c)
	}
}

// Promise 13: each function returns, and the same again, changes no argument, and has results in
// memory of their own.
func TestFunctionsOfNetsAreTotal(t *testing.T) {
	for i, c := range allNetContracts() {
		checkDraws(t, c, int64(460+i), 500)
	}
}

// The functions return for the least and the greatest Nets, too.
func TestFunctionsOfTheLeastAndGreatestNets(t *testing.T) {
	full := netOf(4, slices.Repeat([][]impl.Plane{slices.Repeat(gates(planeOf(99, 99, 99, 99, 99)), 4)}, 6)...)
	low := netOf(4, slices.Repeat([][]impl.Plane{slices.Repeat(gates(planeOf(-98, -99, -99, -99, -99)), 4)}, 6)...)
	for _, net := range []impl.Net{full, low, evenNet(4, 6, 4), evenNet(1, 6, 1), evenNet(1, 1, 1), evenNet(4, 1, 1), oneGate(always(1, 1))} {
		single, layers := len(lastGates(net)) == 1, len(net.Layers)
		for name, call := range map[string]struct {
			f    any
			more []any
			want bool
		}{
			"IsNet": {impl.IsNet, nil, true}, "NetTables": {impl.NetTables, nil, true}, "GateCount": {impl.GateCount, nil, true}, "WeightSum": {impl.WeightSum, nil, true},
			"NegateNet": {impl.NegateNet, nil, true}, "SinglePlane": {impl.SinglePlane, nil, single}, "EvaluateNet": {impl.EvaluateNet, []any{make([]int, net.Inputs)}, true},
			"AfterNet": {impl.AfterNet, []any{evenNet(len(lastGates(net)), 1, 4)}, layers < 6}, "JoinNets": {impl.JoinNets, []any{evenNet(net.Inputs, layers, 1)}, single},
		} {
			if done := checkCall(t, name, call.f, append([]any{roomyNet(net)}, call.more...)); done != call.want {
				t.Errorf("%s of %v: %v", name, net, done)
			}
		}
	}
}

// A Net together with itself, and the pairs of all tables, have memory of their own for each list.
func TestRepeatedGatesAreNew(t *testing.T) {
	r := rand.New(rand.NewSource(480))
	for range 50 {
		inputs := 1 + r.Intn(2)
		net := roomyDrawn(r, inputs, append(drawSizes(r, r.Intn(3), 2), inputs)...)
		for name, f := range map[string]any{"JoinNets": impl.JoinNets, "AfterNet": impl.AfterNet} {
			if !checkCall(t, name, f, []any{net, net}) {
				t.Errorf("%s fails for %v and itself", name, net)
			}
		}
	}
	eachTable(1, 3, func(n int, table []int) {
		_, has := pairsBy(n)[fmt.Sprint(table)]
		for name, f := range map[string]any{"FindPair": impl.FindPair, "NetOfPair": impl.NetOfPair} {
			if done := checkCall(t, name, f, []any{n, roomy(table, 93)}); done != has {
				t.Errorf("%s of %v: %v", name, table, done)
			}
		}
	})
}
