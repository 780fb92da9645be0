package tests

import (
	"math/rand"
	"slices"
	"testing"

	"loop.example/g01135/impl"
)

// The tests of this file check the guarantee of chapter 11, and what chapters 2 and 8 promise of the
// Samples and juries of its Panels.

// Promise 11: the first day of HalvingSays is that of MajoritySays; and up to the first day on which an
// expert is wrong, both say the same.
func TestFirstDaysOfForecasters(t *testing.T) {
	longer := 0
	eachPanel(730, func(p impl.Panel) {
		halving, one := impl.HalvingSays(p)
		majority, two := impl.MajoritySays(p)
		same := slices.IndexFunc(placesBesides(len(p.Truths), nil), func(day int) bool {
			return slices.Max(wrongDaysBy(p, day+1)) > 0
		})
		to := min(same+1, len(p.Truths))
		if same < 0 {
			to = len(p.Truths)
		}
		if !one || !two || len(halving) != len(p.Truths) || !slices.Equal(halving[:to], majority[:to]) {
			t.Fatalf("%v: %v, but %v", p, halving, majority)
		}
		if to > 1 {
			longer++
		}
	})
	if longer < 500 {
		t.Error("only", longer)
	}
}

// An expert alone is followed by all forecasters, who say 1 if it is silent.
func TestForecastersOfOneExpert(t *testing.T) {
	eachPanel(731, func(p impl.Panel) {
		if len(p.Says) > 1 {
			return
		}
		want := []int{}
		for _, said := range p.Says[0] {
			want = append(want, labelBy(said))
		}
		for name, says := range map[string]func(impl.Panel) ([]int, bool){"halving": impl.HalvingSays, "following": impl.FollowingSays, "majority": impl.MajoritySays} {
			if list, ok := says(p); !ok || !slices.Equal(list, want) {
				t.Fatalf("%v, %s: %v, %v", p, name, list, ok)
			}
		}
	})
}

// turnedPanel returns the Panel with the other Truths, in which each expert says the contrary.
func turnedPanel(p impl.Panel) impl.Panel {
	turned := impl.Panel{Truths: otherSides(p.Truths)}
	for _, says := range p.Says {
		turned.Says = append(turned.Says, otherSides(says))
	}
	return turned
}

// The experts of a turned Panel are wrong on the same days, and are followed in the same way.
func TestTurnedPanels(t *testing.T) {
	eachPanel(732, func(p impl.Panel) {
		turned := turnedPanel(p)
		wrong, one := impl.WrongDays(p)
		same, two := impl.WrongDays(turned)
		plan, three := impl.SwitchPlan(p, 2)
		again, four := impl.SwitchPlan(turned, 2)
		if !one || !two || !three || !four || !slices.Equal(wrong, same) || !slices.Equal(plan, again) {
			t.Fatalf("%v: %v and %v, turned %v and %v", p, wrong, plan, same, again)
		}
		says, one := impl.FollowingSays(p)
		contrary, two := impl.FollowingSays(turned)
		if !one || !two || isNeverSilent(p) && !slices.Equal(contrary, otherSides(says)) {
			t.Fatalf("%v: %v, turned %v", p, says, contrary)
		}
	})
}

// The experts in another order, or each one twice, make the halving forecaster say the same.
func TestReorderedExperts(t *testing.T) {
	r := rand.New(rand.NewSource(733))
	eachPanel(734, func(p impl.Panel) {
		moved, twice := impl.Panel{Truths: p.Truths}, impl.Panel{Truths: p.Truths}
		for _, expert := range r.Perm(len(p.Says)) {
			moved.Says = append(moved.Says, p.Says[expert])
			twice.Says = append(twice.Says, p.Says[expert], p.Says[expert])
		}
		want, one := impl.HalvingSays(p)
		says, two := impl.HalvingSays(moved)
		again, three := impl.HalvingSays(twice)
		if !one || !two || !slices.Equal(says, want) {
			t.Fatalf("%v: %v, but %v", p, want, says)
		}
		if three != (len(p.Says) <= 4) || three && !slices.Equal(again, want) {
			t.Fatalf("%v: %v, twice %v, %v", p, want, again, three)
		}
	})
}

// What the experts of a jury say are the sides of chapters 2 and 8: they are wrong where their Planes
// are mistaken, and most of them say what the jury says.
func TestExpertsOfJuries(t *testing.T) {
	eachExpertJury(735, func(s impl.Sample, jury []impl.Plane) {
		p, ok := impl.PanelOf(s, jury)
		wrong, fine := impl.WrongDays(p)
		if !ok || !fine || !isNeverSilent(p) {
			t.Fatalf("%v, %v: %v, %v", s, jury, p, ok)
		}
		for expert, plane := range jury {
			sides, one := impl.SidesOf(s, plane)
			mistakes, two := impl.MistakesOf(s, plane)
			if !one || !two || !slices.Equal(p.Says[expert], sides) || wrong[expert] != len(mistakes) {
				t.Fatalf("%v, %v: %v and %d, not %v and %v", s, plane, p.Says[expert], wrong[expert], sides, mistakes)
			}
		}
		majority, one := impl.MajoritySays(p)
		mistakes, two := impl.JuryMistakes(s, jury)
		if !one || !two || differencesBy(majority, p.Truths) != len(mistakes) {
			t.Fatalf("%v, %v: %v, %v", s, jury, majority, mistakes)
		}
		for day, x := range s.Points {
			if side, ok := impl.JurySide(jury, x); !ok || side != majority[day] {
				t.Fatalf("%v, %v, %v: %d, but %v", s, jury, x, side, majority)
			}
		}
		checkSidesSample(t, s, jury, p)
	})
}

// checkSidesSample checks that the points of SidesSample have day by day what the experts of a jury
// say, and that juries that are too great for it may still make a Panel.
func checkSidesSample(t *testing.T, s impl.Sample, jury []impl.Plane, p impl.Panel) {
	t.Helper()
	sides, ok := impl.SidesSample(s, jury)
	if ok != (len(jury) <= impl.MaxSpace) {
		t.Fatalf("%v, %v: %v, %v", s, jury, sides, ok)
	}
	if !ok {
		return
	}
	if len(sides.Points) != len(p.Truths) || !slices.Equal(sides.Labels, p.Truths) {
		t.Fatalf("%v, %v: %v, but %v", s, jury, sides, p)
	}
	for day, x := range sides.Points {
		for expert, side := range x {
			if len(x) != len(p.Says) || p.Says[expert][day] != side {
				t.Fatalf("%v, %v: %v, but %v", s, jury, sides, p)
			}
		}
	}
}

// The opposites of the experts of a jury are those of its Planes turned; turned labels turn the Truths;
// and the days of a joined Sample are those of both.
func TestPanelsOfChangedSamples(t *testing.T) {
	count := 0
	eachExpertJury(736, func(s impl.Sample, jury []impl.Plane) {
		p, _ := impl.PanelOf(s, jury)
		both, one := impl.WithOpposites(p)
		all := slices.Clone(jury)
		for _, plane := range jury {
			turned, ok := impl.TurnPlane(plane)
			if !ok {
				t.Fatal(plane)
			}
			all = append(all, turned)
		}
		same, two := impl.PanelOf(s, all)
		if one != two || one != (len(jury) <= 4) || !sameText(both, same) {
			t.Fatalf("%v, %v: %v, %v, but %v, %v", s, jury, both, one, same, two)
		}
		labels, one := impl.TurnLabels(s)
		turned, two := impl.PanelOf(labels, jury)
		if !one || !two || !slices.Equal(turned.Truths, otherSides(p.Truths)) || !sameText(turned.Says, p.Says) {
			t.Fatalf("%v, %v: %v, but %v", s, jury, p, turned)
		}
		half := len(s.Points) / 2
		first, one := impl.PartSample(s, placesBesides(half, nil))
		last, two := impl.PartSample(s, placesBesides(len(s.Points), placesBesides(half, nil)))
		before, three := impl.PanelOf(first, jury)
		behind, four := impl.PanelOf(last, jury)
		for expert, says := range before.Says {
			count++
			if !one || !two || !three || !four || !slices.Equal(slices.Concat(says, behind.Says[expert]), p.Says[expert]) {
				t.Fatalf("%v, %v: %v, but %v and %v", s, jury, p, before, behind)
			}
		}
	})
	if count < 1000 {
		t.Error("only", count)
	}
}

// The jury of boosting makes a Panel: its experts are stumps, whose majority is wrong on at most as many
// days as BoostBound tells; and one who follows the stumps with switches, on no more than the best one.
func TestExpertsOfBoosting(t *testing.T) {
	eachFewPoints(737, 16, func(s impl.Sample) {
		jury, _, one := impl.BoostRounds(s, impl.MaxBoosts)
		bound, two := impl.BoostBound(s, impl.MaxBoosts)
		p, three := impl.PanelOf(s, jury)
		majority, four := impl.MajoritySays(p)
		halving, five := impl.HalvingWrong(p)
		wrong, six := impl.WrongDays(p)
		if !one || !two || !three || !four || !five || !six || differencesBy(majority, s.Labels) > bound {
			t.Fatalf("%v, %v: %v, more than %d", s, jury, majority, bound)
		}
		best, _ := impl.BestExpert(p)
		if !isHalvingBound(len(jury), wrong[best], halving) || 2*wrong[0] > len(s.Points) {
			t.Fatalf("%v, %v: %d by halving, and %v", s, jury, halving, wrong)
		}
	})
}
