package tests

import (
	"math/rand"
	"slices"
	"testing"

	"loop.example/g01135/impl"
)

// drawAnyPanel returns a Panel of at most so many experts.
func drawAnyPanel(r *rand.Rand, most int) impl.Panel {
	return roomyPanel(drawPanel(r, 1+r.Intn(most), r.Intn(17)))
}

// threeDays returns a Panel of some experts.
func threeDays() impl.Panel { return roomyPanel(panelOf("+-+", "++-", "0-+", "-0+")) }

func roomyLives(lives ...int) []int { return roomy(lives, 94) }

// panelContracts returns those of the functions of a Panel.
func panelContracts() []contract {
	bad := values(notPanels()...)
	ofPanel := func(name string, f any, most int) contract {
		return contract{
			name: name, f: f, valid: []any{threeDays()}, wrong: [][]any{bad},
			draw: func(r *rand.Rand) []any { return []any{drawAnyPanel(r, most)} },
		}
	}
	ofSwitches := func(name string, f any) contract {
		return contract{
			name: name, f: f, valid: []any{threeDays(), 16}, wrong: [][]any{bad, values(notSwitches()...)},
			misfit: [][]any{{panelOf("", ""), -1}, {panelOf("", ""), 17}, {sameExperts(8, 16, 1), 17}, {impl.Panel{}, 0}},
			draw:   func(r *rand.Rand) []any { return []any{drawAnyPanel(r, 8), r.Intn(17)} },
		}
	}
	opposites := ofPanel("WithOpposites", impl.WithOpposites, 5)
	for experts := 5; experts <= 9; experts++ {
		opposites = withMisfits(opposites, []any{sameExperts(experts, 0, 0)}, []any{sameExperts(experts, 16, 1)})
	}
	return []contract{
		ofPanel("IsPanel", impl.IsPanel, 8), ofPanel("WrongDays", impl.WrongDays, 8), ofPanel("BestExpert", impl.BestExpert, 8),
		ofPanel("HalvingSays", impl.HalvingSays, 8), ofPanel("HalvingWrong", impl.HalvingWrong, 8), ofPanel("FollowingSays", impl.FollowingSays, 8),
		ofPanel("MajoritySays", impl.MajoritySays, 8), opposites, ofSwitches("SwitchWrong", impl.SwitchWrong), ofSwitches("SwitchPlan", impl.SwitchPlan),
	}
}

// juryPanelContract returns that of PanelOf.
func juryPanelContract() contract {
	bad := append(notJuries(), splitJury(1, 2, 1), splitJury(3, 1, 1), splitJury(2, 5, 4), splitJury(4, 5, 0))
	return contract{
		name: "PanelOf", f: impl.PanelOf, valid: []any{fourPoints(), threePlanes()}, wrong: [][]any{values(notSamples()...), values(bad...)},
		misfit: [][]any{{impl.Sample{}, []impl.Plane{}}, {impl.Sample{}, splitJury(2, 9, 0)}, {impl.Sample{}, []impl.Plane{always(1, 1), always(2, 1)}}},
		draw: func(r *rand.Rand) []any {
			s := drawPoints(r, 16)
			return []any{s, roomyJury(drawJury(r, 1+r.Intn(9), len(s.Points[0]), 9))}
		},
	}
}

// livesContracts returns those of the functions of lives.
func livesContracts() []contract {
	ofLives := func(name string, f any) contract {
		return contract{
			name: name, f: f, valid: []any{roomyLives(2, 0, 1, 1)}, wrong: [][]any{intLists(notLives()...)},
			draw: func(r *rand.Rand) []any { return []any{roomyLives(digits(r.Int(), 4, 1+r.Intn(4))...)} },
		}
	}
	split := ofLives("DuelSplit", impl.DuelSplit)
	for n := range 4 {
		split = withMisfits(split, []any{append([]int{1}, make([]int, n)...)})
	}
	return []contract{ofLives("IsLives", impl.IsLives), ofLives("DuelWorst", impl.DuelWorst), split}
}

func allExpertContracts() []contract {
	return slices.Concat(panelContracts(), []contract{juryPanelContract()}, livesContracts())
}

// Promise 13: each function fails for each argument that is not valid, with zero values.
func TestFunctionsOfExpertsFail(t *testing.T) {
	for _, c := range allExpertContracts() {
		checkContract(t, c)
	}
}

// Promise 13: each function returns, and the same again, changes no argument, and has results in
// memory of their own.
func TestFunctionsOfExpertsAreTotal(t *testing.T) {
	for i, c := range allExpertContracts() {
		checkDraws(t, c, int64(740+i), 1000)
	}
}

// Each function returns for the least and the greatest Panels and lives, too, and fails for those that
// are a little greater.
func TestLeastAndGreatestPanels(t *testing.T) {
	for _, experts := range []int{0, 1, 4, 5, 8, 9} {
		for _, days := range []int{0, 1, 16, 17} {
			for said := -1; said <= 1; said++ {
				p := roomyPanel(sameExperts(experts, days, said))
				valid := experts >= 1 && experts <= 8 && days <= 16
				for _, c := range panelContracts() {
					arguments := append([]any{p}, c.valid[1:]...)
					want := valid && (c.name != "WithOpposites" || experts <= 4)
					if done := checkCall(t, c.name, c.f, arguments); done != want {
						t.Errorf("%s of %d experts, %d days: %v", c.name, experts, days, done)
					}
				}
			}
		}
	}
}

// Lives at their limits have a duel, and those beyond them have none.
func TestLeastAndGreatestLives(t *testing.T) {
	for length := range 6 {
		for place := range length {
			for _, n := range []int{-1, 0, 1, 8, 9} {
				lives := roomyLives(make([]int, length)...)
				lives[place] = n
				valid := length <= 4 && n >= 1 && n <= 8
				for _, c := range livesContracts() {
					want := valid && (c.name != "DuelSplit" || n > 1 || place > 0)
					if done := checkCall(t, c.name, c.f, []any{lives}); done != want {
						t.Errorf("%s of %v: %v", c.name, lives, done)
					}
				}
			}
		}
	}
}

// Experts that are the same, and results that are, have memory of their own for each.
func TestRepeatedExpertsAreNew(t *testing.T) {
	same, one := impl.PanelOf(fourPoints(), splitJury(2, 4, 0))
	both, two := impl.WithOpposites(sameExperts(4, 4, 0))
	if !one || !two {
		t.Fatal(one, two)
	}
	for _, p := range []impl.Panel{same, both} {
		lists := append(slices.Clone(p.Says), p.Truths)
		for i := range lists {
			lists[i][0] = 7 + i
		}
		for i, list := range lists {
			if list[0] != 7+i {
				t.Errorf("%v", p)
			}
		}
	}
}
