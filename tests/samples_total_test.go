package tests

import (
	"fmt"
	"math"
	"math/rand"
	"testing"

	"loop.example/g01135/impl"
)

// given has an argument of each kind that the functions of chapter 2 have.
type given struct {
	s, u   impl.Sample
	p      impl.Plane
	x, y   []int
	places []int
	table  []int
	n, k   int
	label  int
	text   string
}

// samplesCall is a function of chapter 2, with the letters of the arguments that it has: P and X
// stand for a Plane and a list that are valid by themselves, but have another length than the
// other arguments.
type samplesCall struct {
	name string
	uses string
	call func(g given) []any
}

func samplesCalls() []samplesCall {
	return []samplesCall{
		{"IsPoint", "x", func(g given) []any { return resultsOf(impl.IsPoint(g.x)) }},
		{"IsSample", "s", func(g given) []any { return resultsOf(impl.IsSample(g.s)) }},
		{"IsPlane", "p", func(g given) []any { return resultsOf(impl.IsPlane(g.p)) }},
		{"ProductOf", "pxP", func(g given) []any { return resultsOf(impl.ProductOf(g.p, g.x)) }},
		{"SideOf", "pxP", func(g given) []any { return resultsOf(impl.SideOf(g.p, g.x)) }},
		{"SidesOf", "spP", func(g given) []any { return resultsOf(impl.SidesOf(g.s, g.p)) }},
		{"MistakesOf", "spP", func(g given) []any { return resultsOf(impl.MistakesOf(g.s, g.p)) }},
		{"FitsSample", "spP", func(g given) []any { return resultsOf(impl.FitsSample(g.s, g.p)) }},
		{"TurnPlane", "p", func(g given) []any { return resultsOf(impl.TurnPlane(g.p)) }},
		{"TurnLabels", "s", func(g given) []any { return resultsOf(impl.TurnLabels(g.s)) }},
		{"MoveSample", "sxX", func(g given) []any { return resultsOf(impl.MoveSample(g.s, g.x)) }},
		{"MovePlane", "pxPX", func(g given) []any { return resultsOf(impl.MovePlane(g.p, g.x)) }},
		{"LiftSample", "s", func(g given) []any { return resultsOf(impl.LiftSample(g.s)) }},
		{"LiftPlane", "p", func(g given) []any { return resultsOf(impl.LiftPlane(g.p)) }},
		{"JoinSamples", "su", func(g given) []any { return resultsOf(impl.JoinSamples(g.s, g.u)) }},
		{"PartSample", "sl", func(g given) []any { return resultsOf(impl.PartSample(g.s, g.places)) }},
		{"PointsWith", "sc", func(g given) []any { return resultsOf(impl.PointsWith(g.s, g.label)) }},
		{"FirstConflict", "s", func(g given) []any { return resultsOf(impl.FirstConflict(g.s)) }},
		{"SquareDistance", "xyX", func(g given) []any { return resultsOf(impl.SquareDistance(g.x, g.y)) }},
		{"BitPoint", "nk", func(g given) []any { return resultsOf(impl.BitPoint(g.n, g.k)) }},
		{"PlaneTable", "p", func(g given) []any { return resultsOf(impl.PlaneTable(g.p)) }},
		{"TableSample", "nt", func(g given) []any { return resultsOf(impl.TableSample(g.n, g.table)) }},
		{"SampleText", "s", func(g given) []any { return resultsOf(impl.SampleText(g.s)) }},
		{"ParseSample", "w", func(g given) []any { return resultsOf(impl.ParseSample(g.text)) }},
	}
}

// ordinary returns arguments for which no function of chapter 2 fails.
func ordinary() given {
	return given{
		s: sampleOf([]int{1, -1, -1, 1}, []int{1, 2}, []int{3, 0}, []int{1, 2}, []int{-1, 1}),
		u: sampleOf([]int{1}, []int{0, 0}), p: planeOf(1, 2, -1), x: []int{1, -2}, y: []int{0, 3},
		places: []int{0, 2}, table: []int{0, 1, 1, 0}, n: 2, k: 3, label: 1, text: "+1,2 -3,0",
	}
}

// spoiled returns the ordinary arguments with invalid ones in place of that with a letter.
func spoiled(letter rune) []given {
	switch letter {
	case 's':
		return changedBy(notSamples(), func(g *given, s impl.Sample) { g.s = s })
	case 'u':
		return changedBy(notSamples(), func(g *given, s impl.Sample) { g.u = s })
	case 'p':
		return changedBy(notPlanes(), func(g *given, p impl.Plane) { g.p = p })
	case 'x':
		return changedBy(notPoints(), func(g *given, x []int) { g.x = x })
	case 'y':
		return changedBy(notPoints(), func(g *given, y []int) { g.y = y })
	case 'P':
		return changedBy(otherLengths(), func(g *given, weights []int) { g.p.Weights = weights })
	case 'X':
		return changedBy(otherLengths(), func(g *given, x []int) { g.x = x })
	case 'l':
		places := [][]int{{2, 0}, {0, 0}, {0, 4}, {-1, 0}}
		return changedBy(places, func(g *given, list []int) { g.places = list })
	case 't':
		tables := [][]int{nil, {0, 1, 2, 0}, {0, -1, 1, 0}, {0, 1, 1}, {0, 1, 1, 0, 0}}
		return changedBy(tables, func(g *given, table []int) { g.table = table })
	case 'c':
		return changedBy([]int{0, 2, -2, math.MinInt, math.MaxInt}, func(g *given, label int) { g.label = label })
	case 'n':
		return changedBy([]int{0, 5, -1, math.MinInt, math.MaxInt}, func(g *given, n int) { g.n = n })
	case 'k':
		return changedBy([]int{-1, 4, 5, math.MinInt, math.MaxInt}, func(g *given, k int) { g.k = k })
	default:
		return changedBy([]string{"", "+1 ", "+01", "-1 +2,3"}, func(g *given, text string) { g.text = text })
	}
}

func otherLengths() [][]int { return [][]int{{1}, {1, 1, 1}, {1, 1, 1, 1}} }

// changedBy returns the ordinary arguments, each time with one of the values put in.
func changedBy[T any](values []T, put func(g *given, value T)) []given {
	list := []given{}
	for _, value := range values {
		g := ordinary()
		put(&g, value)
		list = append(list, g)
	}
	return list
}

// Promise 13: no function fails for ordinary arguments, and each one fails for each argument
// that is not valid, with zero values.
func TestFunctionsOfSamplesFail(t *testing.T) {
	for _, f := range samplesCalls() {
		if failed(f.call(ordinary())) {
			t.Errorf("%s fails for ordinary arguments", f.name)
		}
		for _, letter := range f.uses {
			for _, g := range spoiled(letter) {
				mustReturn(t, f.name, func() {
					results := f.call(g)
					if !failed(results) || !areZero(results) {
						t.Errorf("%s, argument %c: %.200v", f.name, letter, results)
					}
				})
			}
		}
	}
}

// randomGiven returns valid and invalid arguments of all kinds.
func randomGiven(r *rand.Rand) given {
	d := 1 + r.Intn(4)
	s, u := randomSample(r, r.Intn(10), d, 3), randomSample(r, r.Intn(10), d, 3)
	p, x, y := randomPlane(r, d, 30), randomList(r, d, 3), randomList(r, d, 9)
	n, places := r.Intn(6), []int{}
	table := make([]int, 1<<n)
	for i := range table {
		table[i] = r.Intn(2)
	}
	for i := range s.Points {
		if r.Intn(2) == 0 {
			places = append(places, i)
		}
	}
	text, _ := impl.SampleText(u)
	g := given{s, u, p, x, y, places, table, n, r.Intn(20) - 2, 2*r.Intn(2) - 1, text}
	switch r.Intn(12) {
	case 0:
		g.s = notSamples()[r.Intn(len(notSamples()))]
	case 1:
		g.u = notSamples()[r.Intn(len(notSamples()))]
	case 2:
		g.p = notPlanes()[r.Intn(len(notPlanes()))]
	case 3:
		g.x, g.y = notPoints()[r.Intn(len(notPoints()))], randomList(r, r.Intn(6), 10)
	case 4:
		g.places, g.table = randomList(r, r.Intn(6), 9), randomList(r, 1<<n, 1)
	case 5:
		g.n, g.k, g.label = r.Int(), -r.Int(), r.Int()
		g.text += stringsForAll()[r.Intn(60)]
	}
	g.s, g.u, g.p.Weights = roomySample(g.s), roomySample(g.u), roomy(g.p.Weights, 80)
	g.x, g.y, g.places, g.table = roomy(g.x, 81), roomy(g.y, 82), roomy(g.places, 83), roomy(g.table, 84)
	return g
}

// argumentsOf returns the arguments that have slices.
func argumentsOf(g given) []any { return []any{g.s, g.u, g.p, g.x, g.y, g.places, g.table} }

// Promise 13: each function returns, and the same again, with zero values if it fails; it
// changes no argument, and its results lie in memory of their own.
func TestFunctionsOfSamplesAreTotal(t *testing.T) {
	r := rand.New(rand.NewSource(11))
	done := map[string]int{}
	for range 1500 {
		g := randomGiven(r)
		before := pictureOf(argumentsOf(g))
		for _, f := range samplesCalls() {
			mustReturn(t, f.name, func() {
				results := f.call(g)
				text := fmt.Sprint(results)
				if failed(results) && !areZero(results) {
					t.Errorf("%s fails with %.200s", f.name, text)
				}
				if sharesMemory(results, argumentsOf(g)) {
					t.Errorf("%s shares memory: %.200s", f.name, text)
				}
				overwrite(results)
				if again := fmt.Sprint(f.call(g)); again != text {
					t.Errorf("%s gives %.200s, and then %.200s", f.name, text, again)
				}
				if !failed(results) {
					done[f.name]++
				}
			})
			if pictureOf(argumentsOf(g)) != before {
				t.Fatalf("%s changes its arguments", f.name)
			}
		}
	}
	for _, f := range samplesCalls() {
		if n := done[f.name]; n < 100 || n == 1500 {
			t.Errorf("%s was done %d times", f.name, n)
		}
	}
}

// A Sample joined with itself has memory of its own for each one of its points.
func TestSampleJoinedWithItself(t *testing.T) {
	g := ordinary()
	g.u = g.s
	both, ok := impl.JoinSamples(g.s, g.u)
	if !ok || sharesMemory(resultsOf(both), argumentsOf(g)) {
		t.Errorf("%v, %v", both, ok)
	}
	both.Points[0][0] = 9
	if both.Points[4][0] != 1 || g.s.Points[0][0] != 1 {
		t.Errorf("%v and %v", both, g.s)
	}
}
