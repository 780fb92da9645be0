package tests

import (
	"math/rand"
	"slices"
	"testing"

	"loop.example/g01135/impl"
)

func TestSwitchPlan(t *testing.T) {
	silent := panelOf("+-+-", "0000", "-+-+")
	for _, c := range []struct {
		panel impl.Panel
		k     int
		wrong int
		plan  []int
	}{
		{panelOf("", ""), 0, 0, nil}, {panelOf("", "", ""), 1, 0, nil}, {panelOf("", "", ""), 16, 0, nil},
		{panelOf("+", "+"), 0, 0, []int{0}}, {panelOf("+", "-"), 0, 1, []int{0}}, {panelOf("+", "-"), 16, 1, []int{0}}, {panelOf("-", "+", "-"), 0, 0, []int{1}},
		{panelOf("+++", "++-", "-++"), 0, 1, []int{0, 0, 0}}, {panelOf("+++", "++-", "-++"), 1, 0, []int{0, 0, 1}}, {panelOf("+++", "++-", "-++"), 2, 0, []int{0, 0, 1}},
		{panelOf("+++", "-++", "++-"), 0, 1, []int{0, 0, 0}}, {panelOf("+++", "-++", "++-"), 1, 0, []int{1, 0, 0}}, {panelOf("+++", "-+-", "+-+"), 1, 1, []int{0, 0, 1}},
		{panelOf("+++", "+-+", "-+-"), 0, 1, []int{0, 0, 0}}, {panelOf("+++", "+-+", "-+-"), 1, 1, []int{0, 0, 0}}, {panelOf("+++", "+-+", "-+-"), 2, 0, []int{0, 1, 0}},
		{panelOf("++++", "+-+-", "-+-+"), 0, 2, []int{0, 0, 0, 0}}, {panelOf("++++", "+-+-", "-+-+"), 1, 1, []int{0, 0, 0, 1}}, {panelOf("++++", "+-+-", "-+-+"), 2, 1, []int{0, 0, 0, 1}},
		{panelOf("++++", "+-+-", "-+-+"), 3, 0, []int{0, 1, 0, 1}}, {panelOf("++++", "-+-+", "+-+-"), 3, 0, []int{1, 0, 1, 0}}, {panelOf("++++", "-+-+", "+-+-"), 2, 1, []int{0, 0, 1, 0}},
		// Following a silent expert is not wrong.
		{silent, 0, 0, []int{0, 0, 0, 0}}, {silent, 16, 0, []int{0, 0, 0, 0}}, {panelOf("++", "-0", "0-"), 0, 1, []int{0, 0}}, {panelOf("++", "-0", "0-"), 1, 0, []int{1, 0}},
		// A day on which all experts are wrong is one with any of them.
		{panelOf("+++", "---", "---"), 2, 3, []int{0, 0, 0}}, {panelOf("+++", "+--", "+-+"), 0, 1, []int{1, 1, 1}}, {panelOf("+++", "+--", "+-+"), 1, 1, []int{0, 0, 1}},
		{panelOf("+++", "--+", "+--"), 1, 1, []int{1, 0, 0}}, {panelOf("++++", "+---", "---+", "-++-"), 2, 0, []int{0, 2, 2, 1}}, {panelOf("++++", "+---", "---+", "-++-"), 1, 1, []int{0, 2, 2, 2}},
	} {
		wrong, one := impl.SwitchWrong(c.panel, c.k)
		plan, two := impl.SwitchPlan(c.panel, c.k)
		if !one || !two || wrong != c.wrong || !slices.Equal(plan, c.plan) {
			t.Errorf("%v, %d: %d and %v, %v, %v, not %d and %v", c.panel, c.k, wrong, plan, one, two, c.wrong, c.plan)
		}
	}
}

// checkNoSwitches checks that no switches are found.
func checkNoSwitches(t *testing.T, p impl.Panel, k int) {
	t.Helper()
	wrong, one := impl.SwitchWrong(p, k)
	plan, two := impl.SwitchPlan(p, k)
	if one || two || wrong != 0 || len(plan) > 0 {
		t.Errorf("%.200v, %d: %d, %v; %v, %v", p, k, wrong, one, plan, two)
	}
}

// There may be as many switches as MaxSwitch, also for fewer days, and neither more nor less than none.
func TestNumbersOfSwitches(t *testing.T) {
	for _, days := range []int{0, 1, 15, 16} {
		p := sameExperts(2, days, -1)
		for k := -20; k <= 40; k++ {
			if k < 0 || k > 16 {
				checkNoSwitches(t, p, k)
				continue
			}
			wrong, one := impl.SwitchWrong(p, k)
			plan, two := impl.SwitchPlan(p, k)
			if !one || !two || wrong != days || !slices.Equal(plan, make([]int, days)) {
				t.Errorf("%d days, %d: %d, %v; %v, %v", days, k, wrong, one, plan, two)
			}
		}
		for _, k := range notSwitches() {
			checkNoSwitches(t, p, k)
		}
	}
	for _, p := range notPanels() {
		for _, k := range []int{-1, 0, 1, 16, 17} {
			checkNoSwitches(t, p, k)
		}
	}
}

// checkSwitches checks the switches of a Panel for all k by going through all plans.
func checkSwitches(t *testing.T, p impl.Panel, plans [][]int) {
	t.Helper()
	for k, want := range switchesBy(p, plans, impl.MaxSwitch) {
		wrong, one := impl.SwitchWrong(p, k)
		plan, two := impl.SwitchPlan(p, k)
		if !one || !two || wrong != want.wrong || !slices.Equal(plan, want.plan) {
			t.Fatalf("%v, %d: %d, %v; %v, %v, not %v", p, k, wrong, one, plan, two, want)
		}
	}
}

// For all small Panels, and for drawn ones with some thousands of plans, the first one of the best plans
// is found.
func TestSwitchesBySearch(t *testing.T) {
	eachSmallPanel(func(p impl.Panel) {
		days := len(p.Truths)
		best := switchesBy(p, plansOf(len(p.Says), days), days+1)
		for k, want := range best {
			wrong, one := impl.SwitchWrong(p, k)
			plan, two := impl.SwitchPlan(p, k)
			if !one || !two || wrong != want.wrong || !slices.Equal(plan, want.plan) {
				t.Fatalf("%v, %d: %d, %v; %v, %v, not %v", p, k, wrong, one, plan, two, want)
			}
		}
	})
	r := rand.New(rand.NewSource(710))
	for experts, days := range map[int]int{1: 16, 2: 12, 3: 8, 4: 6, 5: 5, 6: 4, 7: 4, 8: 4} {
		plans := plansOf(experts, days)
		for range 30 {
			checkSwitches(t, drawPanel(r, experts, days), plans)
		}
	}
}

// checkFirstPlan checks that a plan with at most k changes that is wrong on so few days is the
// first one: with no lower expert on any of its days, which it would follow for a while, one can go on
// to be wrong on as few.
func checkFirstPlan(t *testing.T, p impl.Panel, plan []int, k, least int, fewest [][]int) {
	t.Helper()
	for day, expert := range plan {
		before := planWrongBy(p, plan[:day])
		for lower := range expert {
			changes := changesBy(append(slices.Clone(plan[:day]), lower))
			if changes > k {
				continue
			}
			for to := day + 1; to <= len(plan); to++ {
				if wrong := before + daysWrongBy(p, lower, day, to) + fewest[k-changes][to]; wrong <= least {
					t.Fatalf("%v, %d: %v, but one can follow %d from %d up to %d", p, k, plan, lower, day, to)
				}
			}
		}
	}
}

// For Panels of any number of experts and days, a plan is wrong on the fewest days, and is the first
// such one.
func TestSwitchesOfGreatPanels(t *testing.T) {
	count := map[int]int{}
	eachPanel(711, func(p impl.Panel) {
		if len(p.Truths) < 6 {
			return // all plans of small Panels are tried above
		}
		fewest := stretchesBy(p, impl.MaxSwitch+1)
		for k := range impl.MaxSwitch + 1 {
			wrong, one := impl.SwitchWrong(p, k)
			plan, two := impl.SwitchPlan(p, k)
			if !one || !two || wrong != fewest[k+1][0] || len(plan) != len(p.Truths) || changesBy(plan) > k || planWrongBy(p, plan) != wrong {
				t.Fatalf("%v, %d: %d, %v; %v, %v, not %d", p, k, wrong, one, plan, two, fewest[k+1][0])
			}
			checkFirstPlan(t, p, plan, k, wrong, fewest)
			count[changesBy(plan)]++
		}
	})
	for changes := range 12 {
		if count[changes] < 20 {
			t.Error(changes, count[changes])
		}
	}
}

// Promise 11: SwitchWrong never gets greater with one more switch, and is the number of wrong days of
// BestExpert without switches. With as many as there are days, it is the number of days on which all
// experts are wrong.
func TestMoreSwitchesAreBetter(t *testing.T) {
	fewer := 0
	eachPanel(712, func(p impl.Panel) {
		wrong, one := impl.WrongDays(p)
		best, two := impl.BestExpert(p)
		last, three := impl.SwitchWrong(p, 0)
		plan, four := impl.SwitchPlan(p, 0)
		if !one || !two || !three || !four || last != wrong[best] || !slices.Equal(plan, slices.Repeat([]int{best}, len(p.Truths))) {
			t.Fatalf("%v: %v, the best is %d; %d, %v", p, wrong, best, last, plan)
		}
		most := min(len(p.Truths), impl.MaxSwitch)
		for k := 1; k <= most; k++ {
			next, ok := impl.SwitchWrong(p, k)
			if !ok || next > last {
				t.Fatalf("%v, %d: %d behind %d", p, k, next, last)
			}
			if next < last {
				fewer++
			}
			last = next
		}
		all, first := 0, []int{}
		for day := range p.Truths {
			right := slices.IndexFunc(placesBesides(len(p.Says), nil), func(expert int) bool { return !isWrongBy(p, expert, day) })
			if right < 0 {
				all++
			}
			first = append(first, max(right, 0))
		}
		if plan, ok := impl.SwitchPlan(p, most); !ok || last != all || !slices.Equal(plan, first) {
			t.Fatalf("%v: %d and %v, not %d and %v", p, last, plan, all, first)
		}
	})
	if fewer < 1000 {
		t.Error("only", fewer)
	}
}
