package tests

import (
	"math"
	"math/bits"
	"math/rand"
	"slices"
	"testing"

	"loop.example/g01135/impl"
)

func TestHalvingPlay(t *testing.T) {
	for _, c := range []struct {
		class       string
		target      int
		order, want []int
	}{
		{"", 0, nil, nil}, {"-", 0, []int{0}, nil}, {"+", 0, []int{0}, nil}, {"- +", 0, []int{0}, []int{0}}, {"- +", 1, []int{0}, nil}, {"- +", 0, nil, nil},
		{"-- -+ ++", 0, []int{0, 1}, []int{1}}, {"-- -+ ++", 1, []int{0, 1}, nil}, {"-- -+ ++", 2, []int{0, 1}, []int{0}},
		{"-- -+ ++", 0, []int{1, 0}, []int{1}}, {"-- -+ ++", 1, []int{1, 0}, []int{0}}, {"-- -+ ++", 2, []int{1, 0}, nil}, {"-- -+ ++", 2, []int{0}, []int{0}}, {"-- -+ ++", 0, []int{1}, []int{1}},
		// With all lists there are always as many with both labels, so 1 is said; the places are told
		// in the order of the play.
		{"-- -+ +- ++", 0, []int{0, 1}, []int{0, 1}}, {"-- -+ +- ++", 0, []int{1, 0}, []int{1, 0}}, {"-- -+ +- ++", 3, []int{1, 0}, nil}, {"-- -+ +- ++", 1, []int{1, 0}, []int{0}},
		{"--- --+ -+- -++ +-- +-+ ++- +++", 0, []int{2, 0, 1}, []int{2, 0, 1}}, {"--- --+ -+- -++ +-- +-+ ++- +++", 2, []int{2, 1, 0}, []int{2, 0}}, {"--- --+ -+- -++ +-- +-+ ++- +++", 0, []int{2}, []int{2}},
		{"-+- -++ ++-", 0, []int{1, 0, 2}, []int{2}}, {"-+- -++ ++-", 2, []int{1}, nil}, {"--- -+- +--", 2, []int{2, 0, 1}, []int{0}}, {"--- -+- +--", 0, []int{2, 1, 0}, []int{0}},
		{"---+ --+- -+-- +---", 0, []int{3, 2, 1, 0}, []int{3}}, {"---+ --+- -+-- +---", 0, []int{0, 1, 2, 3}, []int{2}},
	} {
		if wrong, ok := impl.HalvingPlay(classOfText(c.class), c.target, c.order); !ok || !slices.Equal(wrong, c.want) {
			t.Errorf("%s, %d, %v: %v, %v, not %v", c.class, c.target, c.order, wrong, ok, c.want)
		}
	}
	all := []int{7, 0, 6, 1, 5, 2, 4, 3}
	if wrong, ok := impl.HalvingPlay(labelsOf(8), 0, all); !ok || !slices.Equal(wrong, all) {
		t.Errorf("all lists: %v, %v", wrong, ok)
	}
}

func TestHalvingPlaysThatAreNotValid(t *testing.T) {
	class := classOfText("--- -++ ++-")
	for _, order := range [][]int{
		{0, 0}, {1, 0, 1}, {2, 1, 0, 2}, {0, 1, 2, 0}, {2, 2}, {3}, {0, 3}, {-1}, {0, -1}, {0, 1, 2, 3}, {8}, {math.MinInt}, {0, math.MaxInt}, make([]int, 100),
	} {
		if wrong, ok := impl.HalvingPlay(class, 0, order); ok || len(wrong) != 0 {
			t.Errorf("%v: %v, %v", order, wrong, ok)
		}
	}
	for _, target := range []int{-1, 3, 4, 256, math.MinInt, math.MaxInt} {
		if wrong, ok := impl.HalvingPlay(class, target, []int{0}); ok || len(wrong) != 0 {
			t.Errorf("target %d: %v, %v", target, wrong, ok)
		}
	}
	for _, place := range []int{0, -1} {
		if wrong, ok := impl.HalvingPlay([][]int{{}}, 0, []int{place}); ok || len(wrong) != 0 {
			t.Errorf("place %d of none: %v, %v", place, wrong, ok)
		}
	}
}

// partOrders returns all lists of some of n places in any order, each at most once.
func partOrders(n int) [][]int {
	all := [][]int{}
	for _, set := range setsOf(n, n) {
		for _, order := range ordersOf(len(set)) {
			all = append(all, labelsBy(set, order))
		}
	}
	return all
}

// checkHalving checks that a play by halving is that of the document, and that no more places are
// said wrongly than the number of hypotheses can be halved until it is less than 2.
func checkHalving(t *testing.T, class [][]int, target int, order []int) int {
	t.Helper()
	wrong, ok := impl.HalvingPlay(class, target, order)
	if !ok || !slices.Equal(wrong, halvingBy(class, target, order)) || len(wrong) > bits.Len(uint(len(class)))-1 {
		t.Fatalf("%v, %d, %v: %v, %v", class, target, order, wrong, ok)
	}
	return len(wrong)
}

func TestHalvingPlaysAreThoseOfTheDocument(t *testing.T) {
	eachWholeClass(3, func(class [][]int) {
		for target := range class {
			for _, order := range partOrders(len(class[0])) {
				checkHalving(t, class, target, order)
			}
		}
	})
	r := rand.New(rand.NewSource(430))
	eachClass(431, func(class [][]int) {
		for range 20 {
			m := len(class[0])
			checkHalving(t, class, r.Intn(len(class)), r.Perm(m)[:r.Intn(m+1)])
			checkHalving(t, class, r.Intn(len(class)), r.Perm(m))
		}
	})
}

// Halving is one of the ways to play, so that for some target and some order it says no fewer
// labels wrongly than the mistake number; and it is not always the best way.
func TestHalvingIsNotBetterThanTheMistakeNumber(t *testing.T) {
	worse := 0
	check := func(class [][]int) {
		most := 0
		for target := range class {
			for _, order := range ordersOf(len(class[0])) {
				wrong, _ := impl.HalvingPlay(class, target, order)
				most = max(most, len(wrong))
			}
		}
		number, ok := impl.MistakeNumber(class)
		if !ok || most < number {
			t.Fatalf("%v: %d by halving, and the mistake number is %d, %v", class, most, number, ok)
		}
		if most > number {
			worse++
		}
	}
	eachWholeClass(3, check)
	r := rand.New(rand.NewSource(438))
	for range 400 {
		check(someOf(4, 1+r.Intn(1<<16-1)))
	}
	if worse < 5 {
		t.Error("halving was worse only", worse, "times")
	}
}

func TestNumbersOfClasses(t *testing.T) {
	for _, c := range []struct {
		class string
		want  numbersOf
		first int // -1 for a class of one hypothesis
	}{
		{"", numbersOf{0, 0, 0, 0}, -1}, {"-", numbersOf{0, 0, 0, 0}, -1}, {"+-+-+-+-", numbersOf{0, 0, 0, 0}, -1}, {"- +", numbersOf{1, 1, 1, 1}, 0},
		{"-- -+ ++", numbersOf{1, 1, 2, 2}, 0}, {"-- ++", numbersOf{1, 1, 1, 1}, 0}, {"-- -+", numbersOf{1, 1, 1, 1}, 1}, {"-- -+ +- ++", numbersOf{2, 2, 2, 2}, 0},
		{"--- --+ -++ +++", numbersOf{1, 2, 2, 2}, 1}, {"--- --+ -+- +--", numbersOf{1, 1, 3, 3}, 0}, {"--+ -+- +-- +++", numbersOf{2, 2, 2, 2}, 0},
		{"---+ --+- -+-- +---", numbersOf{1, 1, 1, 3}, 0}, {"+--- +--+ +-++ ++++", numbersOf{1, 2, 2, 2}, 2}, {"---+ --+- +++- ++++", numbersOf{2, 2, 2, 2}, 0},
		// The place 0 parts off one hypothesis alone, and the other two places part the rest.
		{"--- +-- +-+ ++- +++", numbersOf{2, 2, 3, 3}, 0}, {"-+++ +--- +--+ +-++ ++++", numbersOf{1, 2, 2, 3}, 0},
	} {
		class := classOfText(c.class)
		numbers, ok := numbersBy(class)
		first, has := impl.FirstQuestion(class)
		if !ok || numbers != c.want || has != (c.first >= 0) || first != max(c.first, 0) {
			t.Errorf("%s: %v, %v, not %v; first %d, %v, not %d", c.class, numbers, ok, c.want, first, has, c.first)
		}
	}
}

// A chain of m + 1 hypotheses is halved by each question and by each wrong label; with all lists
// each place counts; and of lists with one label 1, each question tells of one alone.
func TestNumbersOfKnownClasses(t *testing.T) {
	for m := range 9 {
		chain, one := numbersBy(chainOf(m))
		all, two := numbersBy(labelsOf(m))
		few, three := numbersBy(fewOnes(m, 1))
		small := min(m, 1)
		if !one || chain != (numbersOf{small, bits.Len(uint(m+1)) - 1, min(m, 2), bits.Len(uint(m))}) {
			t.Errorf("a chain of %d: %v, %v", m, chain, one)
		}
		if !two || all != (numbersOf{m, m, m, m}) {
			t.Errorf("all lists of %d: %v, %v", m, all, two)
		}
		if !three || few != (numbersOf{small, small, m, m}) {
			t.Errorf("at most one of %d: %v, %v", m, few, three)
		}
		first, ok := impl.FirstQuestion(labelsOf(m))
		if ok != (m > 0) || first != 0 {
			t.Errorf("all lists of %d: %d, %v", m, first, ok)
		}
		for place := range m { // two hypotheses that differ there alone
			class := [][]int{slices.Repeat([]int{-1}, m), slices.Repeat([]int{-1}, m)}
			class[1][place] = 1
			if first, ok := impl.FirstQuestion(class); !ok || first != place {
				t.Errorf("%v: %d, %v", class, first, ok)
			}
		}
	}
}

// checkNumbers checks that the numbers of a class are those of the document, and in the order that
// the document guarantees.
func checkNumbers(t *testing.T, class [][]int) numbersOf {
	t.Helper()
	numbers, ok := numbersBy(class)
	first, has := impl.FirstQuestion(class)
	p := playerOf(class)
	if !ok || numbers.mistakes != p.mistakesBy() || numbers.questions != p.questionsBy() {
		t.Fatalf("%v: %v, %v, not %d mistakes and %d questions", class, numbers, ok, p.mistakesBy(), p.questionsBy())
	}
	if has != (len(class) > 1) || has && first != p.firstBy() || !has && first != 0 {
		t.Fatalf("%v: first %d, %v, not %d", class, first, has, p.firstBy())
	}
	if numbers.vapnik > numbers.mistakes || 1<<numbers.mistakes > len(class) || numbers.questions < numbers.teaching || 1<<numbers.questions < len(class) {
		t.Fatalf("%v with %d hypotheses: %v", class, len(class), numbers)
	}
	return numbers
}

// Promise 7: Vapnik, mistake, teaching and question numbers are in order, and no two of them are
// always the same.
func TestNumbersAreInOrder(t *testing.T) {
	apart := map[string]int{}
	check := func(class [][]int) {
		n := checkNumbers(t, class)
		for name, differs := range map[string]bool{
			"vapnik, mistakes": n.vapnik < n.mistakes, "mistakes, hypotheses": 1<<(n.mistakes+1) <= len(class),
			"teaching, questions": n.teaching < n.questions, "hypotheses, questions": 1<<n.questions >= 2*len(class),
		} {
			if differs {
				apart[name]++
			}
		}
	}
	eachClass(432, check)
	r := rand.New(rand.NewSource(433))
	for range 3000 {
		check(someOf(4, 1+r.Intn(1<<16-1)))
	}
	for name, count := range apart {
		if count < 20 {
			t.Error(name, count)
		}
	}
	if len(apart) != 4 {
		t.Error(apart)
	}
}

// versionAt returns the hypotheses that agree with a target at some places.
func versionAt(class [][]int, target int, places []int) [][]int {
	left := [][]int{}
	for _, i := range versionBy(class, places, labelsBy(class[target], places)) {
		left = append(left, class[i])
	}
	return left
}

// sayBest returns the label whose hypotheses have the greater mistake number, or the only one that
// they have.
func sayBest(left [][]int, place int) int {
	best, most := 0, -1
	for _, label := range []int{1, -1} {
		some := slices.DeleteFunc(slices.Clone(left), func(labels []int) bool { return labels[place] != label })
		if number, ok := impl.MistakeNumber(some); ok && number > most {
			best, most = label, number
		}
	}
	return best
}

// One can really play so that no more labels are said wrongly than the mistake number, whatever
// the target and the order of the places are, and for some of them so many are.
func TestMistakeNumbersArePlayed(t *testing.T) {
	eachWholeClass(3, func(class [][]int) {
		number, _ := impl.MistakeNumber(class)
		most := 0
		for target := range class {
			for _, order := range ordersOf(len(class[0])) {
				wrong := 0
				for i, place := range order {
					if sayBest(versionAt(class, target, order[:i]), place) != class[target][place] {
						wrong++
					}
				}
				most = max(most, wrong)
			}
		}
		if most != number {
			t.Fatalf("%v: %d are said wrongly, and the mistake number is %d", class, most, number)
		}
	})
}

// One who asks for FirstQuestion again and again knows each target behind at most as many
// questions as the question number, and some target not before.
func TestFirstQuestionsAreAsked(t *testing.T) {
	eachClass(434, func(class [][]int) {
		if len(class) > 40 {
			return // each version of these would take too long
		}
		number, _ := impl.QuestionNumber(class)
		most := 0
		for target := range class {
			asked := []int{}
			for left := class; len(left) > 1; left = versionAt(class, target, asked) {
				place, ok := impl.FirstQuestion(left)
				if !ok || slices.Contains(asked, place) || len(asked) == number {
					t.Fatalf("%v, %d: %d, %v behind %v, and the question number is %d", class, target, place, ok, asked, number)
				}
				asked = append(asked, place)
			}
			most = max(most, len(asked))
			if _, ok := impl.FirstQuestion(class[target : target+1]); ok {
				t.Fatalf("%v: something is asked", class[target])
			}
		}
		if most != number {
			t.Fatalf("%v: %d questions, and the question number is %d", class, most, number)
		}
	})
}

// With fewer hypotheses no number but the teaching number gets greater.
func TestNumbersOfPartsAreNoGreater(t *testing.T) {
	r := rand.New(rand.NewSource(436))
	eachClass(437, func(class [][]int) {
		part := slices.DeleteFunc(slices.Clone(class), func(labels []int) bool { return r.Intn(4) == 0 })
		if len(part) == 0 {
			return
		}
		whole, one := numbersBy(class)
		some, two := numbersBy(part)
		if !one || !two || some.vapnik > whole.vapnik || some.mistakes > whole.mistakes || some.questions > whole.questions {
			t.Fatalf("%v: %v, %v; %v: %v, %v", class, whole, one, part, some, two)
		}
	})
}
