package tests

import (
	"math"
	"math/rand"
	"slices"
	"strings"

	"loop.example/g01135/impl"
)

// The functions of this file follow the document's definitions of chapter 7 apart from the
// program.

// classOfText returns the class of some words, in which + and - stand for 1 and -1. That of no
// letters is the class of the one list without labels.
func classOfText(text string) [][]int {
	class := [][]int{}
	for _, word := range strings.Split(text, " ") {
		class = append(class, labelsOfText(word))
	}
	return class
}

func labelsOfText(word string) []int {
	labels := []int{}
	for _, sign := range word {
		labels = append(labels, map[rune]int{'+': 1, '-': -1}[sign])
	}
	return labels
}

// someOf returns the class of those lists of m labels whose binary digit in a number is 1.
func someOf(m int, number int) [][]int {
	class := [][]int{}
	for k, labels := range labelsOf(m) {
		if number>>k&1 == 1 {
			class = append(class, labels)
		}
	}
	return class
}

// eachWholeClass calls a function with all classes of at most most places, 0 up to 4.
func eachWholeClass(most int, call func(class [][]int)) {
	for m := range most + 1 {
		for number := 1; number < 1<<(1<<m); number++ {
			call(someOf(m, number))
		}
	}
}

// drawClass returns a class of m places and of so many hypotheses.
func drawClass(r *rand.Rand, m, size int) [][]int {
	all := labelsOf(m)
	class := [][]int{}
	for _, k := range r.Perm(len(all))[:size] {
		class = append(class, all[k])
	}
	slices.SortFunc(class, slices.Compare[[]int])
	return class
}

// chainOf returns the class of all lists of m labels in which no label -1 is behind a label 1.
func chainOf(m int) [][]int {
	return slices.DeleteFunc(labelsOf(m), func(labels []int) bool { return !slices.IsSorted(labels) })
}

// fewOnes returns the class of all lists of m labels of which at most d are 1.
func fewOnes(m, d int) [][]int {
	return slices.DeleteFunc(labelsOf(m), func(labels []int) bool { return len(placesAbove(labels)) > d })
}

// eachClass calls a function with all classes of at most 3 places, and with some of each greater
// number of them: of one hypothesis, of few, of many and of all, with a place at which all
// hypotheses agree, and with known structures.
func eachClass(seed int64, call func(class [][]int)) {
	eachWholeClass(3, call)
	r := rand.New(rand.NewSource(seed))
	for m := 4; m <= 8; m++ {
		all := 1 << m
		for _, size := range []int{1, 2, 3, 4, 5, 8, 11, 16, all / 2, all - 1, all} {
			call(drawClass(r, m, min(size, all)))
		}
		dull := drawClass(r, m-2, 4)
		for i, labels := range dull { // all agree at the place 1, and the last label tells nothing new
			dull[i] = append(slices.Insert(slices.Clone(labels), 1, 1), labels[0])
		}
		call(dull)
		call(chainOf(m))
		for _, d := range []int{0, 1, 2} {
			call(fewOnes(m, d))
		}
	}
}

func isLabelBy(n int) bool { return n == 1 || n == -1 }

// isClassBy tells by the document's definition whether a list is a class.
func isClassBy(list [][]int) bool {
	if len(list) == 0 || len(list) > 256 {
		return false
	}
	for i, labels := range list {
		if len(labels) > 8 || len(labels) != len(list[0]) || slices.ContainsFunc(labels, func(n int) bool { return !isLabelBy(n) }) {
			return false
		}
		if i == 0 {
			continue
		}
		before := list[i-1]
		k := 0
		for k < len(labels) && labels[k] == before[k] {
			k++
		}
		if k == len(labels) || labels[k] < before[k] {
			return false
		}
	}
	return true
}

// labelsBy returns the labels of a hypothesis at the places of a set.
func labelsBy(hypothesis, set []int) []int {
	labels := []int{}
	for _, place := range set {
		labels = append(labels, hypothesis[place])
	}
	return labels
}

// versionBy returns the places of those hypotheses that have labels at the places of a set.
func versionBy(class [][]int, set, labels []int) []int {
	version := []int{}
	for i, hypothesis := range class {
		if slices.Equal(labelsBy(hypothesis, set), labels) {
			version = append(version, i)
		}
	}
	return version
}

// tracesBy returns those of all lists of labels that some hypothesis has at the places of a set.
func tracesBy(class [][]int, set []int) [][]int {
	return slices.DeleteFunc(labelsOf(len(set)), func(labels []int) bool { return len(versionBy(class, set, labels)) == 0 })
}

// shattersBy tells whether the hypotheses have all lists of labels at the places of a set.
func shattersBy(class [][]int, set []int) bool { return len(tracesBy(class, set)) == 1<<len(set) }

func setsOfPlaces(class [][]int) [][]int { return setsOf(len(class[0]), len(class[0])) }

func shatteredBy(class [][]int) [][]int {
	return slices.DeleteFunc(setsOfPlaces(class), func(set []int) bool { return !shattersBy(class, set) })
}

// teachesBy tells whether no other hypothesis has the same labels at the places of a set.
func teachesBy(class [][]int, i int, set []int) bool {
	return len(versionBy(class, set, labelsBy(class[i], set))) == 1
}

func teachingSetBy(class [][]int, i int) []int {
	sets := setsOfPlaces(class)
	return sets[slices.IndexFunc(sets, func(set []int) bool { return teachesBy(class, i, set) })]
}

// halvingBy plays a target by halving, and counts for each place the hypotheses that agree with
// all the places before.
func halvingBy(class [][]int, target int, order []int) []int {
	wrong := []int{}
	for i, place := range order {
		ones, others := 0, 0
		for _, k := range versionBy(class, order[:i], labelsBy(class[target], order[:i])) {
			if class[k][place] == 1 {
				ones++
			} else {
				others++
			}
		}
		if class[target][place] == 1 && others > ones || class[target][place] == -1 && ones >= others {
			wrong = append(wrong, place)
		}
	}
	return wrong
}

// bitSet has the binary digit 1 for some of the hypotheses of a class.
type bitSet [4]uint64

func (b bitSet) with(i int) bitSet {
	b[i/64] |= 1 << (i % 64)
	return b
}

func (b bitSet) and(c bitSet) bitSet {
	for i := range b {
		b[i] &= c[i]
	}
	return b
}

// goal is what is asked of a player: whether a number will do for the hypotheses that are left.
type goal struct {
	left   bitSet
	number int
}

// player tells by the document's definitions whether one can play or ask with a class so that no
// more than a number of labels are said wrongly, or asked for.
type player struct {
	parts    [][2]bitSet // for each place the hypotheses with the labels -1 and 1
	canSays  map[goal]bool
	canAsks  map[goal]bool
	everyone bitSet
}

func playerOf(class [][]int) player {
	p := player{parts: make([][2]bitSet, len(class[0])), canSays: map[goal]bool{}, canAsks: map[goal]bool{}}
	for i, labels := range class {
		p.everyone = p.everyone.with(i)
		for place, label := range labels {
			p.parts[place][(label+1)/2] = p.parts[place][(label+1)/2].with(i)
		}
	}
	return p
}

// canSay tells whether, at each place at which not all that are left agree, one of both labels
// can be said: behind it, the same number must do if it is right, and one less if it is wrong.
func (p player) canSay(g goal) bool {
	if can, ok := p.canSays[g]; ok {
		return can
	}
	can := true
	for _, part := range p.parts {
		one, other := g.left.and(part[1]), g.left.and(part[0])
		if one == (bitSet{}) || other == (bitSet{}) {
			continue
		}
		wrong := g.number - 1
		sayOne := wrong >= 0 && p.canSay(goal{one, g.number}) && p.canSay(goal{other, wrong})
		sayOther := wrong >= 0 && p.canSay(goal{other, g.number}) && p.canSay(goal{one, wrong})
		can = can && (sayOne || sayOther)
	}
	p.canSays[g] = can
	return can
}

// canAsk tells whether one is left, or there is a place at which one can ask, with one question
// less behind it, whatever the label is.
func (p player) canAsk(g goal) bool {
	if can, ok := p.canAsks[g]; ok {
		return can
	}
	can := p.isKnown(g.left)
	for place := range p.parts {
		can = can || p.canAskFirst(g, place)
	}
	p.canAsks[g] = can
	return can
}

func (p player) isKnown(left bitSet) bool {
	for _, part := range p.parts {
		if left.and(part[0]) != (bitSet{}) && left.and(part[1]) != (bitSet{}) {
			return false
		}
	}
	return true
}

func (p player) canAskFirst(g goal, place int) bool {
	if g.number == 0 {
		return false
	}
	for _, part := range p.parts[place] {
		if some := g.left.and(part); some != (bitSet{}) && !p.canAsk(goal{some, g.number - 1}) {
			return false
		}
	}
	return true
}

// mistakesBy and questionsBy return the least numbers that will do.
func (p player) mistakesBy() int {
	k := 0
	for !p.canSay(goal{p.everyone, k}) {
		k++
	}
	return k
}

func (p player) questionsBy() int {
	k := 0
	for !p.canAsk(goal{p.everyone, k}) {
		k++
	}
	return k
}

// firstBy returns the least place that can be asked for first, and -1 if there is none.
func (p player) firstBy() int {
	least := p.questionsBy()
	for place := range p.parts {
		if p.canAskFirst(goal{p.everyone, least}, place) {
			return place
		}
	}
	return -1
}

// notClasses are lists that are no classes, of which some would be with other labels or in
// another order.
func notClasses() [][][]int {
	list := [][][]int{
		nil, {}, {{}, {}}, {nil, nil}, {nil, {1}}, {{}, {1}}, {{-1}, nil}, {{1}, {}}, {{1}, {-1}}, {{1}, {1}}, {{-1}, {-1}}, {{-1}, {1}, {1}}, {{-1}, {-1}, {1}},
		{{0}}, {{2}}, {{-2}}, {{math.MinInt}}, {{math.MaxInt}}, {{-1}, {0}}, {{0}, {1}}, {{-1}, {0}, {1}}, {{-1}, {2}}, {{-2}, {1}}, {{-1, 1}, {1, 0}}, {{-1, 3}, {1, 1}},
		{{-1}, {1, 1}}, {{-1, 1}, {1}}, {{-1, -1}, {1, 1, 1}}, {{-1, -1, -1}, {1, 1}}, {{-1, -1}, {-1, 1, 1}, {1, 1}}, {{-1, -1}, {1, 1}, {1, 1, 1}},
		{{-1, 1}, {-1, -1}}, {{-1, -1}, {1, -1}, {-1, 1}}, {{-1, -1}, {-1, 1}, {-1, 1}, {1, 1}}, {{-1, 1}, {1, -1}, {1, -1}},
		{slices.Repeat([]int{1}, 9)}, {slices.Repeat([]int{-1}, 9), slices.Repeat([]int{1}, 9)}, {make([]int, 100)}, {slices.Repeat([]int{1}, 1000)},
		labelsOf(9), labelsOf(9)[:256], labelsOf(9)[:257], make([][]int, 256), make([][]int, 257), make([][]int, 1000),
		append(labelsOf(8), slices.Repeat([]int{1}, 8)), append(labelsOf(8), slices.Repeat([]int{1}, 9)), append(labelsOf(8), slices.Repeat([]int{2}, 8)),
		slices.Insert(labelsOf(8), 0, slices.Repeat([]int{-2}, 8)), slices.Insert(labelsOf(8), 128, labelsOf(8)[127]),
		append(labelsOf(8)[:255], slices.Repeat([]int{1}, 7)), append(labelsOf(8)[1:], labelsOf(8)[0]), slices.Concat(labelsOf(8), labelsOf(8)),
	}
	turned := labelsOf(8)
	slices.Reverse(turned)
	return append(list, turned)
}

// notLabelCounts are numbers of labels that no hypothesis has.
func notLabelCounts() []int { return []int{-1, 9, 10, -8, 62, 63, 64, -64, math.MinInt, math.MaxInt} }

// numbersOf are the numbers of a class that chapter 7 puts in order.
type numbersOf struct{ vapnik, mistakes, teaching, questions int }

// numbersBy returns the numbers of a class that the program finds, and whether it found all.
func numbersBy(class [][]int) (numbersOf, bool) {
	vapnik, one := impl.VapnikNumber(class)
	mistakes, two := impl.MistakeNumber(class)
	teaching, three := impl.TeachingNumber(class)
	questions, four := impl.QuestionNumber(class)
	return numbersOf{vapnik, mistakes, teaching, questions}, one && two && three && four
}
