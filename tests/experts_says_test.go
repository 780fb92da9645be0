package tests

import (
	"math/big"
	"slices"
	"testing"

	"loop.example/g01135/impl"
)

// The limits are those of the document.
func TestLimitsOfExperts(t *testing.T) {
	if impl.MaxExperts != 8 || impl.MaxDays != 16 || impl.MaxSwitch != 16 || impl.MaxLives != 3 {
		t.Error(impl.MaxExperts, impl.MaxDays, impl.MaxSwitch, impl.MaxLives)
	}
}

func TestIsPanel(t *testing.T) {
	for experts := 1; experts <= impl.MaxExperts; experts++ {
		for _, days := range []int{0, 1, 2, 15, impl.MaxDays} {
			for said := -1; said <= 1; said++ {
				if p := sameExperts(experts, days, said); !impl.IsPanel(p) {
					t.Errorf("no Panel: %v", p)
				}
			}
		}
	}
	for _, p := range append(notPanels(), sameExperts(0, 0, 0), sameExperts(0, 1, 0), sameExperts(0, 16, 0)) {
		if impl.IsPanel(p) {
			t.Errorf("a Panel: %.200v", p)
		}
	}
	eachPanel(700, func(p impl.Panel) {
		if !impl.IsPanel(p) {
			t.Fatalf("no Panel: %v", p)
		}
	})
}

// Each number of a Panel may be one of just those that the document names.
func TestNumbersOfPanels(t *testing.T) {
	for n := -4; n <= 4; n++ {
		for place := range 6 {
			p := panelOf("+-", "0+", "-+")
			lists := [][]int{p.Truths, p.Says[0], p.Says[1]}
			lists[place/2][place%2] = n
			want := n == 1 || n == -1 || n == 0 && place >= 2
			if is := impl.IsPanel(p); is != want {
				t.Errorf("%v: %v", p, is)
			}
		}
	}
}

// said is what is said for a Panel, and on how many days who is wrong.
type said struct {
	wrong     []int
	best      int
	halving   string
	following string
	majority  string
}

func TestForecasters(t *testing.T) {
	for _, c := range []struct {
		panel impl.Panel
		want  said
	}{
		{panelOf("", ""), said{[]int{0}, 0, "", "", ""}},
		{panelOf("", "", "", ""), said{[]int{0, 0, 0}, 0, "", "", ""}},
		{panelOf("+", "+"), said{[]int{0}, 0, "+", "+", "+"}},
		{panelOf("+", "-"), said{[]int{1}, 0, "-", "-", "-"}},
		{panelOf("-", "0"), said{[]int{0}, 0, "+", "+", "+"}},                     // a silent expert is not wrong
		{panelOf("++-", "+--", "-++"), said{[]int{1, 2}, 0, "+-+", "+--", "+++"}}, // on the last day, both have the weight 1/2
		{panelOf("+++", "++-", "-++"), said{[]int{1, 1}, 0, "++-", "++-", "+++"}},
		{panelOf("---", "++-", "-++"), said{[]int{2, 2}, 0, "+++", "+++", "+++"}},
		{panelOf("++", "-+", "+-"), said{[]int{1, 1}, 0, "+-", "--", "++"}},
		{panelOf("--", "0+", "+-"), said{[]int{1, 1}, 0, "++", "++", "++"}},
		{panelOf("--+", "0-+", "+0-"), said{[]int{0, 2}, 0, "+-+", "+-+", "+-+"}},
		{panelOf("--", "+0", "0-"), said{[]int{1, 0}, 1, "+-", "+-", "+-"}},
		{panelOf("----", "0000", "0000"), said{[]int{0, 0}, 0, "++++", "++++", "++++"}},
		// Two experts that have been wrong once weigh as much as one that has not.
		{panelOf("+--", "-++", "-++", "+-+"), said{[]int{3, 3, 1}, 2, "-++", "--+", "-++"}},
		{panelOf("+--", "-++", "-++", "+--"), said{[]int{3, 3, 0}, 2, "-+-", "---", "-++"}},
		{panelOf("+-", "-+", "-+", "-+", "+-"), said{[]int{2, 2, 2, 0}, 3, "-+", "--", "-+"}},
		{panelOf("-+", "+-", "+-", "+-", "-+"), said{[]int{2, 2, 2, 0}, 3, "+-", "++", "+-"}},
		// The first one of the best experts so far may be another one on each day.
		{panelOf("+++", "-++", "+-+", "++-"), said{[]int{1, 1, 1}, 0, "+++", "---", "+++"}},
		{panelOf("----", "++++", "+---", "-+--", "----"), said{[]int{4, 1, 1, 0}, 3, "++--", "++--", "++--"}},
	} {
		got, ok := saidOf(c.panel)
		if !ok || !sameText(got, c.want) {
			t.Errorf("%v: %v, %v, not %v", c.panel, got, ok, c.want)
		}
	}
}

// saidOf returns what the program finds for a Panel, and whether it found all.
func saidOf(p impl.Panel) (said, bool) {
	wrong, one := impl.WrongDays(p)
	best, two := impl.BestExpert(p)
	halving, three := impl.HalvingSays(p)
	following, four := impl.FollowingSays(p)
	majority, five := impl.MajoritySays(p)
	return said{wrong, best, signsText(halving), signsText(following), signsText(majority)}, one && two && three && four && five
}

func signsText(list []int) string {
	text := ""
	for _, n := range list {
		text += map[int]string{1: "+", -1: "-"}[n]
	}
	return text
}

// For all small Panels, and for drawn ones, who is wrong and what is said is as the document says.
func TestForecastersBySearch(t *testing.T) {
	wrongs := map[string]int{}
	eachPanel(701, func(p impl.Panel) {
		days := len(p.Truths)
		halving, following := halvingSaysBy(p), followingSaysBy(p)
		want := said{wrongDaysBy(p, days), bestExpertBy(p, days), signsText(halving), signsText(following), signsText(majoritySaysBy(p))}
		got, one := saidOf(p)
		wrong, two := impl.HalvingWrong(p)
		if !one || !two || !sameText(got, want) || wrong != differencesBy(halving, p.Truths) {
			t.Fatalf("%v: %v and %d, %v, not %v", p, got, wrong, one, want)
		}
		if got.halving != got.following {
			wrongs["following"]++
		}
		if got.halving != got.majority {
			wrongs["majority"]++
		}
		if got.best > 0 {
			wrongs["best"]++
		}
	})
	if len(wrongs) != 3 || wrongs["following"] < 500 || wrongs["majority"] < 500 || wrongs["best"] < 500 {
		t.Error(wrongs)
	}
}

// A weight can be halved on all of MaxDays days, and is still more than nothing.
func TestLeastWeights(t *testing.T) {
	p := sameExperts(2, 16, 1)
	p.Says[0], p.Truths[15] = slices.Repeat([]int{-1}, 16), -1
	p.Says[1] = slices.Concat(make([]int, 15), []int{0})
	if says, ok := impl.HalvingSays(p); !ok || !slices.Equal(says, slices.Repeat([]int{-1}, 16)) {
		t.Error(says, ok)
	}
	for ones := range 8 { // on the last day, the first expert has the weight 1, and all others 2 to the power of -15
		p := sameExperts(8, 16, -1)
		p.Says[0] = append(slices.Repeat([]int{1}, 15), -1)
		for expert := 1; expert < 8; expert++ {
			p.Says[expert][15] = map[bool]int{true: 1, false: -1}[expert <= ones]
		}
		says, ok := impl.HalvingSays(p)
		wrong, fine := impl.HalvingWrong(p)
		if want := slices.Concat([]int{-1, -1, -1}, slices.Repeat([]int{1}, 12), []int{-1}); !ok || !fine || !slices.Equal(says, want) || wrong != 4 {
			t.Errorf("%d: %v, %v, %d", ones, says, ok, wrong)
		}
	}
}

// isHalvingBound tells whether 4 to the power of the wrong days is at most the number of experts times
// 2 to the power of those of the best expert times 3 to the power of the wrong days.
func isHalvingBound(experts, best, wrong int) bool {
	left, right := big.NewInt(1), big.NewInt(int64(experts))
	for range wrong {
		left.Mul(left, big.NewInt(4))
		right.Mul(right, big.NewInt(3))
	}
	for range best {
		right.Mul(right, big.NewInt(2))
	}
	return left.Cmp(right) <= 0
}

// Promise 11: the halving forecaster is seldom wrong if one expert is, and so is the following one,
// though more often. This is so for all Panels without silent experts, and not for all others.
func TestForecastersAreSeldomWrong(t *testing.T) {
	sharp, others := map[string]int{}, map[string]int{}
	eachPanel(702, func(p impl.Panel) {
		experts := len(p.Says)
		wrong, one := impl.WrongDays(p)
		expert, two := impl.BestExpert(p)
		halving, three := impl.HalvingWrong(p)
		says, four := impl.FollowingSays(p)
		if !one || !two || !three || !four {
			t.Fatal(p)
		}
		best, following := wrong[expert], differencesBy(says, p.Truths)
		bounds := map[string]bool{"halving": isHalvingBound(experts, best, halving), "following": following <= experts*(best+1)-1}
		for name, holds := range bounds {
			if !isNeverSilent(p) {
				if !holds {
					others[name]++
				}
				continue
			}
			if !holds {
				t.Fatalf("%v: %s is wrong on %d or %d days, and the best expert on %d", p, name, halving, following, best)
			}
		}
		if isNeverSilent(p) && following == experts*(best+1)-1 {
			sharp["following"]++
		}
		if isNeverSilent(p) && !isHalvingBound(experts, best, halving+1) {
			sharp["halving"]++
		}
	})
	if sharp["following"] < 100 || sharp["halving"] < 50 || others["following"] < 100 || others["halving"] < 100 {
		t.Error(sharp, others)
	}
}

// The following forecaster can be wrong as often as the bound says: experts that are wrong in turn are
// followed in turn.
func TestExpertsThatAreWrongInTurn(t *testing.T) {
	for experts := 1; experts <= impl.MaxExperts; experts++ {
		for times := 1; times*experts <= impl.MaxDays; times++ {
			days := times * experts
			p := sameExperts(experts, days, 1)
			for expert := range experts {
				p.Says[expert] = slices.Repeat([]int{1}, days)
				for day := expert; day < days; day += experts {
					p.Says[expert][day] = -1
				}
			}
			says, one := impl.FollowingSays(p)
			wrong, two := impl.WrongDays(p)
			if !one || !two || !slices.Equal(says, slices.Repeat([]int{-1}, days)) || !slices.Equal(wrong, slices.Repeat([]int{times}, experts)) {
				t.Errorf("%v: %v, %v", p, says, wrong)
			}
		}
	}
}

// For Panels that differ only behind a day, and in its Truth, a forecaster says the same up to this
// day: it knows neither these nor any later days.
func TestForecastersKnowNoLaterDays(t *testing.T) {
	eachPanel(703, func(p impl.Panel) {
		before, _ := saidOf(p)
		for day := range p.Truths {
			changed := impl.Panel{Truths: slices.Clone(p.Truths)}
			for i := day; i < len(p.Truths); i++ {
				changed.Truths[i] *= -1
			}
			for _, says := range p.Says {
				changed.Says = append(changed.Says, slices.Concat(says[:day+1], otherSides(says[day+1:])))
			}
			behind, ok := saidOf(changed)
			to := day + 1
			if !ok || before.halving[:to] != behind.halving[:to] || before.following[:to] != behind.following[:to] || before.majority[:to] != behind.majority[:to] {
				t.Fatalf("%v, %d: %v, %v", p, day, before, behind)
			}
		}
	})
}
