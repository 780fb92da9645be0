package tests

import (
	"math"
	"math/rand"
	"slices"

	"loop.example/g01135/impl"
)

// The functions of this file follow the document's definitions of chapter 11 apart from the
// program.

// panelOf returns the Panel of some texts in which +, - and 0 stand for 1, -1 and 0: of the Truths,
// and of what each expert says.
func panelOf(truths string, says ...string) impl.Panel {
	p := impl.Panel{Truths: labelsOfText(truths)}
	for _, text := range says {
		p.Says = append(p.Says, labelsOfText(text))
	}
	return p
}

func roomyPanel(p impl.Panel) impl.Panel {
	return impl.Panel{Says: roomyRows(p.Says), Truths: roomy(p.Truths, 93)}
}

func isWrongBy(p impl.Panel, expert, day int) bool {
	said := p.Says[expert][day]
	return said != 0 && said != p.Truths[day]
}

// daysWrongBy returns on how many of the days of from up to the one before to an expert is wrong.
func daysWrongBy(p impl.Panel, expert, from, to int) int {
	count := 0
	for day := from; day < to; day++ {
		if isWrongBy(p, expert, day) {
			count++
		}
	}
	return count
}

// wrongDaysBy returns on how many days before a day each expert is wrong.
func wrongDaysBy(p impl.Panel, to int) []int {
	list := []int{}
	for expert := range p.Says {
		list = append(list, daysWrongBy(p, expert, 0, to))
	}
	return list
}

// bestExpertBy returns the first expert that is wrong on the fewest days before a day.
func bestExpertBy(p impl.Panel, to int) int {
	best := 0
	for expert, wrong := range wrongDaysBy(p, to) {
		if wrong < daysWrongBy(p, best, 0, to) {
			best = expert
		}
	}
	return best
}

// differencesBy returns on how many days a forecaster is wrong that says a list.
func differencesBy(says, truths []int) int {
	count := 0
	for day, truth := range truths {
		if says[day] != truth {
			count++
		}
	}
	return count
}

// halvingSaysBy halves weights, which numbers of 64 bits with a point can be without an error.
func halvingSaysBy(p impl.Panel) []int {
	weights, list := slices.Repeat([]float64{1}, len(p.Says)), []int{}
	for day := range p.Truths {
		sum := 0.0
		for expert, says := range p.Says {
			sum += weights[expert] * float64(says[day])
		}
		if sum >= 0 {
			list = append(list, 1)
		} else {
			list = append(list, -1)
		}
		for expert := range p.Says {
			if isWrongBy(p, expert, day) {
				weights[expert] /= 2
			}
		}
	}
	return list
}

func followingSaysBy(p impl.Panel) []int {
	list := []int{}
	for day := range p.Truths {
		said := p.Says[bestExpertBy(p, day)][day]
		if said == 0 {
			said = 1
		}
		list = append(list, said)
	}
	return list
}

func majoritySaysBy(p impl.Panel) []int {
	list := []int{}
	for day := range p.Truths {
		ones, others := 0, 0
		for _, says := range p.Says {
			switch says[day] {
			case 1:
				ones++
			case -1:
				others++
			}
		}
		list = append(list, map[bool]int{true: 1, false: -1}[ones >= others])
	}
	return list
}

// isNeverSilent tells whether all experts say something on all days.
func isNeverSilent(p impl.Panel) bool {
	return !slices.ContainsFunc(p.Says, func(says []int) bool { return slices.Contains(says, 0) })
}

// plansOf returns all lists of an expert for each day, in lexicographic order.
func plansOf(experts, days int) [][]int {
	all := [][]int{}
	for k := range power(experts, days) {
		plan := digits(k, experts, days)
		slices.Reverse(plan)
		all = append(all, plan)
	}
	return all
}

func planWrongBy(p impl.Panel, plan []int) int {
	count := 0
	for day, expert := range plan {
		if isWrongBy(p, expert, day) {
			count++
		}
	}
	return count
}

func changesBy(plan []int) int {
	count := 0
	for day := 1; day < len(plan); day++ {
		if plan[day] != plan[day-1] {
			count++
		}
	}
	return count
}

// switched is a plan, and on how many days it is wrong.
type switched struct {
	plan  []int
	wrong int
}

// switchesBy goes through all plans, and returns for each number of switches up to a greatest one
// the first plan that is wrong on the fewest days.
func switchesBy(p impl.Panel, plans [][]int, most int) []switched {
	best := slices.Repeat([]switched{{wrong: math.MaxInt}}, most+1)
	for _, plan := range plans {
		wrong := planWrongBy(p, plan)
		for k := changesBy(plan); k <= most; k++ {
			if wrong < best[k].wrong {
				best[k] = switched{plan, wrong}
			}
		}
	}
	return best
}

// stretchesBy returns for each number of stretches of days, 1 up to a greatest one, and for each day
// on which they begin, on how few days from there on one is wrong who follows one expert in each
// stretch. That behind the last day is the last one in each list.
func stretchesBy(p impl.Panel, most int) [][]int {
	days := len(p.Truths)
	all := [][]int{slices.Repeat([]int{1000}, days+1)}
	all[0][days] = 0
	for range most {
		last := all[len(all)-1]
		next := slices.Clone(last)
		for from := range days {
			for to := from + 1; to <= days; to++ {
				for expert := range p.Says {
					next[from] = min(next[from], daysWrongBy(p, expert, from, to)+last[to])
				}
			}
		}
		all = append(all, next)
	}
	return all
}

// drawPanel returns a Panel of so many experts and days: of experts that say anything, that are never
// silent, that are mostly so, that are mostly right, and of some that are right for a while.
func drawPanel(r *rand.Rand, experts, days int) impl.Panel {
	p := impl.Panel{}
	for range days {
		p.Truths = append(p.Truths, 2*r.Intn(2)-1)
	}
	kind := r.Intn(5)
	for range experts {
		says := []int{}
		from := r.Intn(days + 1)
		for day, truth := range p.Truths {
			said := map[bool]int{true: truth, false: -truth}[r.Intn(5) > 0]
			switch {
			case kind == 0:
				said = r.Intn(3) - 1
			case kind == 1:
				said = 2*r.Intn(2) - 1
			case kind == 2 && r.Intn(4) > 0:
				said = 0
			case kind == 3 && (day < from || day > from+4):
				said = -truth
			}
			says = append(says, said)
		}
		p.Says = append(p.Says, says)
	}
	return p
}

// eachSmallPanel calls a function with all Panels of one expert and up to 5 days, of 2 experts and up
// to 3 days, of 3 experts and up to 2 days, and of 4 experts and one day or none.
func eachSmallPanel(call func(p impl.Panel)) {
	for i, most := range []int{5, 3, 2, 1} {
		experts := i + 1
		for days := range most + 1 {
			for _, truths := range labelsOf(days) {
				for _, all := range listsWithin(experts*days, 1) {
					p := impl.Panel{Truths: truths}
					for expert := range experts {
						p.Says = append(p.Says, all[expert*days:(expert+1)*days])
					}
					call(p)
				}
			}
		}
	}
}

// eachPanel calls a function with all small Panels, and with some of each number of experts and of
// days: drawn ones, and those whose experts all are silent, right or wrong, or the same.
func eachPanel(seed int64, call func(p impl.Panel)) {
	eachSmallPanel(call)
	r := rand.New(rand.NewSource(seed))
	for experts := 1; experts <= impl.MaxExperts; experts++ {
		for days := range impl.MaxDays + 1 {
			for range 4 {
				call(drawPanel(r, experts, days))
			}
			p := drawPanel(r, experts, days)
			for _, says := range [][]int{make([]int, days), p.Truths, otherSides(p.Truths), p.Says[0]} {
				call(impl.Panel{Says: slices.Repeat([][]int{says}, experts), Truths: p.Truths})
			}
			p.Says[experts/2] = make([]int, days)
			call(p)
		}
	}
}

// sameExperts returns the Panel of so many experts that all say a number on so many days, of which the
// Truth is 1.
func sameExperts(experts, days, said int) impl.Panel {
	return impl.Panel{
		Says:   slices.Repeat([][]int{slices.Repeat([]int{said}, days)}, experts),
		Truths: slices.Repeat([]int{1}, days),
	}
}

// notPanels returns Panels that are not valid, of which some would be with one expert or day less.
func notPanels() []impl.Panel {
	list := []impl.Panel{
		{}, {Says: [][]int{}, Truths: []int{}}, {Truths: []int{1}}, {Says: [][]int{nil}, Truths: []int{1}}, {Says: [][]int{{1}}},
		panelOf("+", ""), panelOf("", "+"), panelOf("", "", "0"), panelOf("", "0", ""), panelOf("+", "++"), panelOf("++", "+"),
		panelOf("+-", "+-", "+"), panelOf("+-", "+", "+-"), panelOf("+-", "+-", "+-+"), panelOf("+-", "+-+", "+-"), panelOf("+-", "+-", ""),
		panelOf("0", "+"), panelOf("+0", "++"), panelOf("0+", "++", "00"), panelOf("00", "00"),
		sameExperts(9, 0, 1), sameExperts(9, 1, 1), sameExperts(9, 16, 0), sameExperts(10, 2, -1), sameExperts(1000, 1, 1),
		sameExperts(1, 17, 1), sameExperts(8, 17, 0), sameExperts(2, 18, -1), sameExperts(1, 1000, 1), sameExperts(9, 17, 1),
	}
	for _, n := range []int{2, -2, 3, 99, math.MaxInt, math.MinInt, math.MinInt + 1} {
		for place := range 6 {
			p := panelOf("+-", "0+", "-+")
			lists := [][]int{p.Truths, p.Says[0], p.Says[1]}
			lists[place/2][place%2] = n
			list = append(list, p)
		}
	}
	return list
}

// notSwitches are no numbers of switches.
func notSwitches() []int { return []int{-1, 17, 18, -16, 100, math.MinInt, math.MaxInt} }

// eachLives calls a function with all lives.
func eachLives(call func(lives []int)) {
	for n := 1; n <= impl.MaxLives+1; n++ {
		for _, lives := range plansOf(impl.MaxExperts+1, n) {
			if sum := sumBy(lives); sum >= 1 && sum <= impl.MaxExperts {
				call(lives)
			}
		}
	}
}

// notLives returns lists that are no lives.
func notLives() [][]int {
	list := [][]int{
		nil, {}, {0}, {0, 0}, {0, 0, 0, 0}, {9}, {0, 9}, {0, 0, 0, 9}, {8, 1}, {1, 8}, {3, 3, 3}, {2, 2, 2, 3}, {4, 0, 0, 5}, {100},
		{1, 0, 0, 0, 0}, {0, 0, 0, 0, 1}, {0, 0, 0, 0, 0}, {1, 1, 1, 1, 1}, {1, 1, 1, 1, 1, 1}, make([]int, 100), slices.Repeat([]int{1}, 8),
		{-1}, {-1, 2}, {2, -1}, {9, -1}, {-1, 9}, {0, 0, 0, -1}, {1, 0, -1, 1}, {1, -8}, {8, -8, 8},
	}
	for _, n := range []int{math.MaxInt, math.MinInt, math.MaxInt - 7, math.MinInt + 9} {
		list = append(list, []int{n}, []int{1, n}, []int{n, 1}, []int{n, n}, []int{n, -n, 1}, []int{1, 0, n, -n}, []int{n, n, n, n})
	}
	return append(list, []int{math.MaxInt, math.MaxInt, 3}, []int{math.MinInt, math.MinInt, 1})
}

// team tells for each of up to 8 experts on how many more days it may be wrong, in ascending order; -1
// stands for one that is not alive.
type team [8]int

func teamOf(lives []int) team {
	list := []int{}
	for days, n := range lives {
		list = append(list, slices.Repeat([]int{days}, n)...)
	}
	m := team(slices.Repeat([]int{-1}, 8))
	copy(m[8-len(list):], list)
	return m
}

// behind returns the team behind a day on which the experts of a set are wrong, by the binary digits
// of a number, and whether one is alive.
func (m team) behind(wrong int) (team, bool) {
	for i := range m {
		m[i] = max(m[i]-wrong>>i&1, -1)
	}
	slices.Sort(m[:])
	return m, m[7] >= 0
}

// alive returns the number whose binary digits are 1 for the experts alive.
func (m team) alive() int {
	number := 0
	for i, days := range m {
		if days >= 0 {
			number |= 1 << i
		}
	}
	return number
}

// game is a duel of a team that ends behind some days, and games what is known of them.
type game struct {
	team team
	days int
}

type games map[game]int

// mostWrong returns on how many days of a game the adversary can make any forecaster be wrong. It
// tries all that the experts can say.
func (g games) mostWrong(at game) int {
	if at.days == 0 {
		return 0
	}
	if known, ok := g[at]; ok {
		return known
	}
	most, alive := 0, at.team.alive()
	for ones := range alive + 1 {
		if ones&^alive == 0 {
			most = max(most, min(g.mostIfSaid(at, ones, 1), g.mostIfSaid(at, ones, -1)))
		}
	}
	g[at] = most
	return most
}

// mostIfSaid returns on how many days of a game the adversary can make a forecaster be wrong that
// says something when the experts of a set say 1.
func (g games) mostIfSaid(at game, ones, said int) int {
	most := -1
	for truth, wrong := range map[int]int{1: at.team.alive() &^ ones, -1: ones} {
		next, alive := at.team.behind(wrong)
		if !alive {
			continue
		}
		count := g.mostWrong(game{next, at.days - 1})
		if truth != said {
			count++
		}
		most = max(most, count)
	}
	return most
}

// enough is more than the number of days on which the adversary can make any forecaster be wrong.
const enough = 12

// worstBy returns on how many days it can.
func (g games) worstBy(lives []int) int { return g.mostWrong(game{teamOf(lives), enough}) }

// splitBy tries all parts of lives in lexicographic order, and returns the first one with which the
// adversary makes the forecaster be wrong on that day and on so many days in all, and whether there
// is one.
func (g games) splitBy(lives []int, worst int) ([]int, bool) {
	for _, part := range partsBy(lives) {
		makes := true
		for _, wrong := range []int{setBy(lives, part), teamOf(lives).alive() &^ setBy(lives, part)} {
			next, alive := teamOf(lives).behind(wrong)
			makes = makes && alive && 1+g.mostWrong(game{next, enough - 1}) >= worst
		}
		if makes {
			return part, true
		}
	}
	return nil, false
}

// partsBy returns all lists with numbers of 0 up to those of lives, in lexicographic order.
func partsBy(lives []int) [][]int {
	return slices.DeleteFunc(plansOf(slices.Max(lives)+1, len(lives)), func(part []int) bool {
		for place, n := range part {
			if n > lives[place] {
				return true
			}
		}
		return false
	})
}

// setBy returns a set of experts of the team of lives of which as many may be wrong on each number of
// days as a part tells, by the binary digits of a number.
func setBy(lives, part []int) int {
	set, at := 0, 8-sumBy(lives)
	for place, n := range part {
		for i := range n {
			set |= 1 << (at + i)
		}
		at += lives[place]
	}
	return set
}

// differenceBy returns the numbers of a list less those of another one.
func differenceBy(list, part []int) []int {
	rest := slices.Clone(list)
	for place, n := range part {
		rest[place] -= n
	}
	return rest
}

// leftBy returns the lives behind a day on which a part is wrong.
func leftBy(lives, part []int) []int {
	left := differenceBy(lives, part)
	for place, n := range part[1:] {
		left[place] += n
	}
	return left
}
