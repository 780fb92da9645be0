package tests

import (
	"fmt"
	"math"
	"math/rand"
	"slices"
	"testing"

	"loop.example/g01135/impl"
)

func notShares() [][]int {
	return [][]int{
		nil, {}, {17}, {-1}, {math.MaxInt}, {math.MinInt}, {1, 17}, {17, 1}, {1, -1, 1}, {0, 0, 0, 0, 0, 0, 0, 17},
		{1, 1, 1, 1, 1, 1, 1, 1, 1}, make([]int, 9), make([]int, 1000),
	}
}

func TestAreShares(t *testing.T) {
	for n := range 11 {
		for place := range n {
			for _, share := range []int{-2, -1, 0, 1, 2, 7, 8, 15, 16, 17, 18, math.MinInt, math.MaxInt} {
				shares := make([]int, n)
				shares[place] = share
				if impl.AreShares(shares) != (n <= 8 && share >= 0 && share <= 16) {
					t.Errorf("AreShares(%v) = %v", shares, impl.AreShares(shares))
				}
			}
		}
	}
	for _, shares := range [][]int{{0}, {16}, {1, 1}, slices.Repeat([]int{16}, 8), make([]int, 8)} {
		if !impl.AreShares(shares) {
			t.Errorf("%v are shares", shares)
		}
	}
	for _, shares := range notShares() {
		if impl.AreShares(shares) {
			t.Errorf("%.20v are no shares", shares)
		}
	}
}

func TestStepWinnow(t *testing.T) {
	for _, c := range []struct {
		shares, row []int
		answer      int
		want        []int
		said        bool
	}{
		{[]int{1, 1}, []int{1, 0}, 1, []int{2, 1}, false},
		{[]int{1, 1}, []int{1, 0}, 0, []int{1, 1}, true},
		{[]int{1, 1}, []int{1, 1}, 0, []int{0, 0}, false},
		{[]int{1, 1}, []int{1, 1}, 1, []int{1, 1}, true},
		{[]int{2, 1}, []int{1, 0}, 1, []int{2, 1}, true},
		{[]int{2, 1}, []int{1, 0}, 0, []int{0, 1}, false},
		{[]int{2, 1}, []int{0, 1}, 1, []int{2, 2}, false},
		{[]int{2, 1}, []int{0, 0}, 1, []int{2, 1}, false},
		{[]int{2, 1}, []int{0, 0}, 0, []int{2, 1}, true},
		{[]int{1, 2, 3}, []int{1, 0, 1}, 0, []int{0, 2, 0}, false},
		{[]int{1, 2, 3}, []int{1, 0, 0}, 1, []int{2, 2, 3}, false},
		{[]int{0}, []int{1}, 1, []int{0}, false},
		{[]int{1}, []int{1}, 1, []int{1}, true},
		{[]int{1}, []int{1}, 0, []int{0}, false},
		{[]int{16}, []int{1}, 1, []int{16}, true},
		{[]int{16}, []int{0}, 1, []int{16}, false},
		{[]int{7, 16, 16, 16, 16, 16, 16, 16}, []int{1, 0, 0, 0, 0, 0, 0, 0}, 1, []int{14, 16, 16, 16, 16, 16, 16, 16}, false},
		{[]int{8, 16, 16, 16, 16, 16, 16, 16}, []int{1, 0, 0, 0, 0, 0, 0, 0}, 1, []int{8, 16, 16, 16, 16, 16, 16, 16}, true},
		{[]int{4, 3, 0, 1, 0, 5, 0, 9}, []int{1, 1, 1, 0, 1, 0, 1, 0}, 1, []int{8, 6, 0, 1, 0, 5, 0, 9}, false},
		{[]int{4, 3, 0, 1, 0, 5, 0, 9}, []int{1, 1, 1, 1, 1, 0, 1, 0}, 0, []int{0, 0, 0, 0, 0, 5, 0, 9}, false},
	} {
		next, said, ok := impl.StepWinnow(c.shares, c.row, c.answer)
		if !ok || said != c.said || !slices.Equal(next, c.want) {
			t.Errorf("%v at %v, %d: %v, %v, %v", c.shares, c.row, c.answer, next, said, ok)
		}
	}
}

// turnBy is a turn by the document's definition, and whether the shares said the answer.
func turnBy(shares, row []int, answer int) ([]int, bool) {
	sum := 0
	for i, bit := range row {
		if bit == 1 {
			sum += shares[i]
		}
	}
	next := slices.Clone(shares)
	if (sum >= len(row)) == (answer == 1) {
		return next, true
	}
	for i, bit := range row {
		switch {
		case bit == 1 && answer == 1:
			next[i] = shares[i] + shares[i]
		case bit == 1:
			next[i] = 0
		}
	}
	return next, false
}

// digits returns the n digits of k to a base, the first one first.
func digits(k, base, n int) []int {
	list := make([]int, n)
	for i := range list {
		list[i] = k % base
		k /= base
	}
	return list
}

func power(base, n int) int {
	result := 1
	for range n {
		result *= base
	}
	return result
}

// Promise 3: no share is ever greater than 16. All turns of up to 3 shares, and random ones of
// more, are those of the document.
func TestTurnsKeepSharesSmall(t *testing.T) {
	check := func(shares, row []int, answer int) {
		want, right := turnBy(shares, row, answer)
		next, said, ok := impl.StepWinnow(shares, row, answer)
		if !ok || said != right || !slices.Equal(next, want) || slices.Max(next) > 16 || !impl.AreShares(next) {
			t.Fatalf("%v at %v, %d: %v, %v, %v", shares, row, answer, next, said, ok)
		}
	}
	for n := 1; n <= 3; n++ {
		for k := range power(17, n) {
			for row := range 1 << n {
				check(digits(k, 17, n), digits(row, 2, n), 0)
				check(digits(k, 17, n), digits(row, 2, n), 1)
			}
		}
	}
	r := rand.New(rand.NewSource(38))
	for range 50000 {
		n := 1 + r.Intn(8)
		shares := make([]int, n)
		for i := range shares {
			shares[i] = r.Intn(1 + r.Intn(17))
		}
		check(shares, digits(r.Intn(1<<n), 2, n), r.Intn(2))
	}
}

func TestTurnsThatAreNone(t *testing.T) {
	one := []int{1, 1}
	type turn struct {
		shares, row []int
		answer      int
	}
	turns := []turn{
		{one, nil, 1}, {one, []int{1}, 1}, {one, []int{1, 0, 0}, 1}, {one, []int{1, 2}, 1}, {one, []int{-1, 1}, 1},
		{one, []int{math.MaxInt, 1}, 1}, {one, one, 2}, {one, one, -1}, {one, one, math.MinInt}, {nil, nil, 0}, {[]int{}, []int{}, 1},
		{slices.Repeat(one, 5), slices.Repeat(one, 5), 1}, {make([]int, 9), make([]int, 9), 0},
	}
	for _, shares := range notShares() {
		turns = append(turns, turn{shares, make([]int, len(shares)), 0})
	}
	for _, c := range turns {
		if next, said, ok := impl.StepWinnow(c.shares, c.row, c.answer); ok || said || len(next) != 0 {
			t.Errorf("%.30v at %.30v, %d: %v, %v, %v", c.shares, c.row, c.answer, next, said, ok)
		}
	}
}

func TestRunWinnow(t *testing.T) {
	for _, c := range []struct {
		n       int
		rows    [][]int
		answers []int
		want    []int
		wrong   int
	}{
		{2, [][]int{{1, 0}, {0, 1}, {1, 0}}, []int{1, 0, 1}, []int{2, 1}, 1},
		{2, nil, nil, []int{1, 1}, 0},
		{1, [][]int{}, []int{}, []int{1}, 0},
		{8, nil, nil, []int{1, 1, 1, 1, 1, 1, 1, 1}, 0},
		{1, [][]int{{1}}, []int{0}, []int{0}, 1},
		{1, [][]int{{1}, {1}, {1}}, []int{0, 1, 1}, []int{0}, 3},
		{1, [][]int{{1}, {0}}, []int{1, 0}, []int{1}, 0},
		{3, [][]int{{1, 1, 0}, {1, 1, 0}, {1, 0, 0}, {1, 0, 1}}, []int{1, 1, 1, 0}, []int{0, 2, 0}, 3},
		{3, [][]int{{0, 0, 0}, {0, 0, 0}, {1, 1, 1}}, []int{1, 0, 1}, []int{1, 1, 1}, 1},
		{4, [][]int{{1, 1, 1, 1}, {1, 1, 1, 1}, {1, 1, 1, 1}}, []int{1, 0, 1}, []int{0, 0, 0, 0}, 2},
	} {
		shares, wrong, ok := impl.RunWinnow(c.n, c.rows, c.answers)
		if !ok || !slices.Equal(shares, c.want) || wrong != c.wrong {
			t.Errorf("%d, %v, %v: %v, %d, %v", c.n, c.rows, c.answers, shares, wrong, ok)
		}
	}
}

// randomGame returns rows of n numbers with any answers.
func randomGame(r *rand.Rand, n, rows int) ([][]int, []int) {
	list, answers := [][]int{}, []int{}
	for range rows {
		list = append(list, digits(r.Intn(1<<n), 2, n))
		answers = append(answers, r.Intn(2))
	}
	return list, answers
}

// Games of each length, with any answers, are those of the document.
func TestGamesAreThoseOfTheDocument(t *testing.T) {
	r := rand.New(rand.NewSource(39))
	for n := 1; n <= 8; n++ {
		for length := range 41 {
			for range 5 {
				rows, answers := randomGame(r, n, length)
				want, mistakes := slices.Repeat([]int{1}, n), 0
				for i, row := range rows {
					next, said := turnBy(want, row, answers[i])
					if !said {
						mistakes++
					}
					want = next
				}
				shares, wrong, ok := impl.RunWinnow(n, rows, answers)
				if !ok || !slices.Equal(shares, want) || wrong != mistakes || slices.Max(shares) > 16 {
					t.Fatalf("%v, %v: %v, %d, %v", rows, answers, shares, wrong, ok)
				}
			}
		}
	}
}

// badRows returns lists that are no rows of 2 numbers, of which a game can be.
func badRows() [][][]int {
	return [][][]int{
		{{}}, {nil}, {{1}}, {{1, 0, 1}}, {{1, 0}, {1}}, {{1}, {1, 0}}, {{1, 0}, {1, 0, 0}}, {{1, 2}}, {{-1, 0}},
		{{1, 0}, {0, math.MinInt}}, {{1, 0}, {math.MaxInt, 1}}, {{1, 0}, nil},
		slices.Repeat([][]int{{1, 0}}, 41), slices.Repeat([][]int{{1, 0}}, 1000),
	}
}

func badCounts() []int { return []int{0, 9, 10, -1, math.MinInt, math.MaxInt} }

func TestGamesThatAreNone(t *testing.T) {
	check := func(n int, rows [][]int, answers []int) {
		t.Helper()
		if shares, wrong, ok := impl.RunWinnow(n, rows, answers); ok || len(shares) != 0 || wrong != 0 {
			t.Errorf("%d, %.50v, %.50v: %v, %d, %v", n, rows, answers, shares, wrong, ok)
		}
	}
	for _, rows := range badRows() {
		check(2, rows, make([]int, len(rows)))
	}
	for _, n := range badCounts() {
		check(n, nil, nil)
		check(n, [][]int{make([]int, max(0, min(n, 100)))}, []int{0})
		check(n, [][]int{{1, 0}}, []int{1})
	}
	for _, answers := range [][]int{nil, {1}, {1, 1, 1}, {1, 2}, {-1, 1}, {math.MaxInt, 1}, {0, math.MinInt}} {
		check(2, [][]int{{1, 0}, {0, 1}}, answers)
	}
	check(2, nil, []int{1})
	for _, n := range []int{1, 8} {
		rows := slices.Repeat([][]int{make([]int, n)}, 41)
		if _, _, ok := impl.RunWinnow(n, rows[:40], make([]int, 40)); !ok {
			t.Errorf("40 rows of %d numbers are a game", n)
		}
		check(n, rows, make([]int, 41))
		check(n, rows, make([]int, 40))
	}
}

func TestOrAnswers(t *testing.T) {
	rows := [][]int{{1, 0, 0}, {0, 1, 0}, {0, 0, 1}, {0, 0, 0}, {1, 1, 1}}
	for _, c := range []struct{ set, want []int }{
		{nil, []int{0, 0, 0, 0, 0}}, {[]int{}, []int{0, 0, 0, 0, 0}}, {[]int{0}, []int{1, 0, 0, 0, 1}},
		{[]int{1}, []int{0, 1, 0, 0, 1}}, {[]int{2}, []int{0, 0, 1, 0, 1}}, {[]int{0, 2}, []int{1, 0, 1, 0, 1}},
		{[]int{1, 2}, []int{0, 1, 1, 0, 1}}, {[]int{0, 1, 2}, []int{1, 1, 1, 0, 1}},
	} {
		if answers, ok := impl.OrAnswers(3, rows, c.set); !ok || !slices.Equal(answers, c.want) {
			t.Errorf("%v: %v, %v", c.set, answers, ok)
		}
	}
	for _, set := range [][]int{{3}, {-1}, {0, 0}, {1, 0}, {0, 2, 1}, {0, 1, 2, 3}, {2, 3}, {-1, 0}, {math.MinInt}, {math.MaxInt}} {
		for _, list := range [][][]int{nil, rows} {
			if answers, ok := impl.OrAnswers(3, list, set); ok || len(answers) != 0 {
				t.Errorf("%v: %v, %v", set, answers, ok)
			}
		}
	}
	for n := 1; n <= 8; n++ {
		rows := slices.Repeat([][]int{digits(1<<(n-1), 2, n)}, 41)
		answers, one := impl.OrAnswers(n, rows[:40], []int{n - 1})
		others, two := impl.OrAnswers(n, nil, []int{n - 1})
		if !one || !two || !slices.Equal(answers, slices.Repeat([]int{1}, 40)) || len(others) != 0 {
			t.Errorf("%d: %v, %v; %v, %v", n, answers, one, others, two)
		}
		if answers, ok := impl.OrAnswers(n, rows, nil); ok || len(answers) != 0 {
			t.Errorf("%d: 41 rows, %v, %v", n, answers, ok)
		}
		if answers, ok := impl.OrAnswers(n, rows[:40], []int{n}); ok || len(answers) != 0 {
			t.Errorf("%d: %v, %v", n, answers, ok)
		}
	}
	for _, rows := range badRows() {
		if answers, ok := impl.OrAnswers(2, rows, []int{0}); ok || len(answers) != 0 {
			t.Errorf("%.50v: %v, %v", rows, answers, ok)
		}
	}
	for _, n := range badCounts() {
		if answers, ok := impl.OrAnswers(n, nil, nil); ok || len(answers) != 0 {
			t.Errorf("%d: %v, %v", n, answers, ok)
		}
	}
}

func TestWinnowBound(t *testing.T) {
	doublings := []int{0, 0, 1, 2, 2, 3, 3, 3, 3}
	for n := -1; n <= 10; n++ {
		for k := -1; k <= 11; k++ {
			bound, ok := impl.WinnowBound(n, k)
			if fine := n >= 1 && n <= 8 && k >= 0 && k <= n; ok != fine || !ok && bound != 0 {
				t.Errorf("WinnowBound(%d, %d) = %d, %v", n, k, bound, ok)
			}
			if ok && bound != 1+2*k*doublings[n] {
				t.Errorf("WinnowBound(%d, %d) = %d", n, k, bound)
			}
		}
	}
	for _, c := range [][2]int{{math.MinInt, 0}, {math.MaxInt, 0}, {4, math.MinInt}, {4, math.MaxInt}, {math.MaxInt, math.MaxInt}} {
		if bound, ok := impl.WinnowBound(c[0], c[1]); ok || bound != 0 {
			t.Errorf("WinnowBound(%v) = %d, %v", c, bound, ok)
		}
	}
}

// worstGame returns the most turns at which shares do not say the answer, whatever the rows
// are that come; known has those of other shares.
func worstGame(t *testing.T, shares, set []int, known map[string]int) int {
	key := fmt.Sprint(shares)
	if most, ok := known[key]; ok {
		return most
	}
	n, most := len(shares), 0
	for k := range 1 << n {
		row := digits(k, 2, n)
		answers, one := impl.OrAnswers(n, [][]int{row}, set)
		if !one {
			t.Fatalf("no answer for %v, %v", row, set)
		}
		next, said, two := impl.StepWinnow(shares, row, answers[0])
		if !two {
			t.Fatalf("no turn of %v at %v, %d", shares, row, answers[0])
		}
		if !said {
			most = max(most, 1+worstGame(t, next, set, known))
		}
	}
	known[key] = most
	return most
}

// Promise 3: no game with the answers of OrAnswers for k places has more turns at which the
// answer is not said than WinnowBound, whatever the rows are.
func TestGamesKeepTheBound(t *testing.T) {
	for n := 1; n <= 5; n++ {
		for k := range 1 << n {
			set := []int{}
			for place, bit := range digits(k, 2, n) {
				if bit == 1 {
					set = append(set, place)
				}
			}
			bound, ok := impl.WinnowBound(n, len(set))
			if most := worstGame(t, slices.Repeat([]int{1}, n), set, map[string]int{}); !ok || most > bound {
				t.Errorf("%d turns of %d shares, %v, but the bound is %d, %v", most, n, set, bound, ok)
			}
		}
	}
}

// Promise 3, for games with rows of each length that are drawn until the answer is not said.
func TestLongGamesKeepTheBound(t *testing.T) {
	r := rand.New(rand.NewSource(40))
	for n := 1; n <= 8; n++ {
		for range 200 {
			set := []int{}
			for place := range n {
				if r.Intn(3) == 0 {
					set = append(set, place)
				}
			}
			rows := hardRows(r, n, set)
			answers, one := impl.OrAnswers(n, rows, set)
			shares, wrong, two := impl.RunWinnow(n, rows, answers)
			bound, three := impl.WinnowBound(n, len(set))
			if !one || !two || !three || wrong > bound || slices.Max(shares) > 16 {
				t.Fatalf("%v, %v: %d and %d", rows, set, wrong, bound)
			}
		}
	}
}

// hardRows returns 40 rows, of which each one is drawn again if the shares say its answer.
func hardRows(r *rand.Rand, n int, set []int) [][]int {
	rows, shares := [][]int{}, slices.Repeat([]int{1}, n)
	for range 40 {
		row, said := digits(r.Intn(1<<n), 2, n), true
		for range 20 {
			answer := 0
			for _, place := range set {
				answer = max(answer, row[place])
			}
			var next []int
			if next, said = turnBy(shares, row, answer); !said {
				shares = next
				break
			}
			row = digits(r.Intn(1<<n), 2, n)
		}
		rows = append(rows, row)
	}
	return rows
}
