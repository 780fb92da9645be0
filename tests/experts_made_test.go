package tests

import (
	"slices"
	"testing"

	"loop.example/g01135/impl"
)

func TestPanelOf(t *testing.T) {
	stump, steep := planeOf(2, 1), planeOf(-1, -1)
	for _, c := range []struct {
		sample string
		jury   []impl.Plane
		want   impl.Panel
	}{
		{"+1 -2", []impl.Plane{stump}, panelOf("+-", "-+")},
		{"+1 -2", []impl.Plane{stump, steep}, panelOf("+-", "-+", "+-")},
		{"-2 +1", []impl.Plane{steep, stump, steep}, panelOf("-+", "-+", "+-", "-+")}, // the same Plane may stand in it again
		{"-3", []impl.Plane{stump}, panelOf("-", "+")},
		{"none", []impl.Plane{stump}, panelOf("", "")},
		{"none", []impl.Plane{planeOf(0, 1, 2, 3), planeOf(1, 0, 0, 0)}, panelOf("", "", "")},
		{"+1,2 -3,0 +-1,1", []impl.Plane{planeOf(0, -1, 1), planeOf(0, 0, 0), planeOf(1, 0, 0)}, panelOf("+-+", "+-+", "+++", "---")},
	} {
		p, ok := impl.PanelOf(sampleOfText(t, c.sample), c.jury)
		if !ok || !sameText(p, c.want) || !impl.IsPanel(p) {
			t.Errorf("%s, %v: %v, %v, not %v", c.sample, c.jury, p, ok, c.want)
		}
	}
}

// A jury may have as many Planes as there are experts, which is less than MaxJury.
func TestPanelsOfGreatJuries(t *testing.T) {
	for _, s := range []impl.Sample{{}, fourPoints(), repeated(1, -1, 3, 4), repeated(16, 1, 9, -9)} {
		for ones := range 12 {
			for others := range 12 {
				p, ok := impl.PanelOf(s, splitJury(2, ones, others))
				size := ones + others
				if ok != (size >= 1 && size <= 8) || impl.IsPanel(p) != ok || !ok && !sameText(p, impl.Panel{}) {
					t.Fatalf("%v, %d and %d: %v, %v", s, ones, others, p, ok)
				}
				if !ok {
					continue
				}
				for expert, says := range p.Says {
					side := map[bool]int{true: 1, false: -1}[expert < ones]
					if !slices.Equal(says, slices.Repeat([]int{side}, len(s.Points))) {
						t.Fatalf("%v, %d and %d: %v", s, ones, others, p)
					}
				}
			}
		}
	}
}

// Neither lists that are no juries nor Planes that do not suit a Sample make a Panel, also for Samples
// without points, which each Plane suits.
func TestNoPanels(t *testing.T) {
	bad := slices.Concat(notJuries(), [][]impl.Plane{splitJury(2, 5, 4), splitJury(1, 1, 0), splitJury(3, 0, 2), splitJury(4, 4, 4), splitJury(5, 1, 0)})
	for _, jury := range bad {
		if p, ok := impl.PanelOf(fourPoints(), jury); ok || !sameText(p, impl.Panel{}) {
			t.Errorf("%.200v: %v, %v", jury, p, ok)
		}
	}
	for _, jury := range append(notJuries(), splitJury(1, 9, 0), []impl.Plane{always(1, 1), always(2, 1)}, splitJury(5, 1, 0)) {
		if p, ok := impl.PanelOf(impl.Sample{}, jury); ok || !sameText(p, impl.Panel{}) {
			t.Errorf("no points, %.200v: %v, %v", jury, p, ok)
		}
	}
	for _, s := range notSamples() {
		if p, ok := impl.PanelOf(s, threePlanes()); ok || !sameText(p, impl.Panel{}) {
			t.Errorf("%.200v: %v, %v", s, p, ok)
		}
	}
}

// eachExpertJury calls a function with those of many juries that are experts for a Sample.
func eachExpertJury(seed int64, call func(s impl.Sample, jury []impl.Plane)) {
	eachJury(seed, func(s impl.Sample, jury []impl.Plane) {
		if len(jury) <= impl.MaxExperts {
			call(s, jury)
		}
	})
}

func TestPanelsOfJuriesBySides(t *testing.T) {
	eachExpertJury(720, func(s impl.Sample, jury []impl.Plane) {
		p, ok := impl.PanelOf(s, jury)
		if !ok || len(p.Says) != len(jury) || !slices.Equal(p.Truths, s.Labels) {
			t.Fatalf("%v, %v: %v, %v", s, jury, p, ok)
		}
		for expert, says := range p.Says {
			if len(says) != len(s.Points) {
				t.Fatalf("%v, %v: %v", s, jury, p)
			}
			for day, x := range s.Points {
				if says[day] != sideBy(jury[expert], x) {
					t.Fatalf("%v, %v: %v", s, jury, p)
				}
			}
		}
	})
}

func TestWithOpposites(t *testing.T) {
	for _, c := range []struct{ panel, want impl.Panel }{
		{panelOf("", ""), panelOf("", "", "")}, {panelOf("", "", "", "", ""), panelOf("", "", "", "", "", "", "", "", "")},
		{panelOf("+", "+"), panelOf("+", "+", "-")}, {panelOf("-", "0"), panelOf("-", "0", "0")}, {panelOf("-", "-"), panelOf("-", "-", "+")},
		{panelOf("+-+", "+0-", "--+"), panelOf("+-+", "+0-", "--+", "-0+", "++-")},
		{panelOf("--", "00", "++", "-+"), panelOf("--", "00", "++", "-+", "00", "--", "+-")},
		{panelOf("+", "+", "-", "-", "0"), panelOf("+", "+", "-", "-", "0", "-", "+", "+", "0")},
	} {
		if both, ok := impl.WithOpposites(c.panel); !ok || !sameText(both, c.want) {
			t.Errorf("%v: %v, %v", c.panel, both, ok)
		}
	}
}

// There may be half as many experts as MaxExperts, and no more.
func TestMostOpposites(t *testing.T) {
	for experts := range 12 {
		for _, days := range []int{0, 1, 16, 17} {
			both, ok := impl.WithOpposites(sameExperts(experts, days, -1))
			if want := experts >= 1 && experts <= 4 && days <= 16; ok != want || len(both.Says) != map[bool]int{true: 2 * experts}[want] {
				t.Errorf("%d, %d: %v, %v", experts, days, both, ok)
			}
			if !ok && !sameText(both, impl.Panel{}) {
				t.Errorf("%d, %d: %v", experts, days, both)
			}
		}
	}
	for _, p := range notPanels() {
		if both, ok := impl.WithOpposites(p); ok || !sameText(both, impl.Panel{}) {
			t.Errorf("%.200v: %v, %v", p, both, ok)
		}
	}
}

// With all opposites, an expert or its opposite is right on each day on which it says something; the sum
// of what all say is 0; and with enough switches one is never wrong.
func TestOppositesBySearch(t *testing.T) {
	eachPanel(721, func(p impl.Panel) {
		experts, days := len(p.Says), len(p.Truths)
		if experts > 4 {
			return
		}
		both, ok := impl.WithOpposites(p)
		want := impl.Panel{Says: slices.Clone(p.Says), Truths: p.Truths}
		for _, says := range p.Says {
			want.Says = append(want.Says, otherSides(says))
		}
		if !ok || !sameText(both, want) || !impl.IsPanel(both) {
			t.Fatalf("%v: %v, %v", p, both, ok)
		}
		wrong, one := impl.WrongDays(p)
		all, two := impl.WrongDays(both)
		for expert, count := range wrong {
			said := days - len(slices.DeleteFunc(slices.Clone(p.Says[expert]), func(n int) bool { return n != 0 }))
			if !one || !two || all[expert] != count || all[experts+expert] != said-count {
				t.Fatalf("%v: %v, with opposites %v", p, wrong, all)
			}
		}
		majority, three := impl.MajoritySays(both)
		never, four := impl.SwitchWrong(both, impl.MaxSwitch)
		if !three || !four || slices.Contains(majority, -1) || len(majority) != days || never != 0 {
			t.Fatalf("%v: %v, %d", both, majority, never)
		}
	})
}
