package tests

import (
	"math/rand"
	"slices"
	"testing"

	"loop.example/g01135/impl"
)

func TestLeastMistakes(t *testing.T) {
	for _, c := range []struct {
		text string
		want []int
	}{
		{"none", []int{}}, {"+0", []int{}}, {"-0", []int{}}, {"+0 -1", []int{}},
		{"+5 -5", []int{0}}, {"-5 +5", []int{0}}, {"+5 -5 -5", []int{0}}, {"+5 +5 -5", []int{2}},
		{"+5 +5 -5 -5", []int{0, 1}}, {"+5 -5 +5 -5", []int{0, 2}}, {"-5 +5 +5 -5", []int{0, 3}},
		{"-0,0 -1,1 +0,1 +1,0", []int{0}}, {"+0 -1 +2", []int{0}}, {"+0 +0 -1 +2 +2 +2", []int{2}},
		{"+0 +0 -1 -1 +2 +2 +2", []int{0, 1}}, {"+0 -1 +2 -3", []int{1}}, {"+0 -1 +2 -3 +4", []int{0, 2}},
		{"+0 -1 +2 -3 +4 -5", []int{1, 3}}, {"+0 -1 +2 -3 +4 -5 +6 -7", []int{1, 3, 5}},
		{"+9,9,9,9 -9,9,9,9 +9,9,9,9 -9,9,9,9 +9,9,9,9 -9,9,9,9 +9,9,9,9 -9,9,9,9", []int{0, 2, 4, 6}},
		{"-9,9,9,9 -9,9,9,9 +9,9,9,9 -9,9,9,9 +9,9,9,9 -9,9,9,9 -9,9,9,9 -9,9,9,9", []int{2, 4}},
		{"+0,0 +4,0 +0,4 -1,1", []int{0}}, {"+0,0 +4,0 +0,4 -1,1 -1,1", []int{0}}, {"-1,2 +0,0 +4,0 +0,4 +4,4 +1,2", []int{0}},
	} {
		if set, ok := impl.LeastMistakes(sampleOfText(t, c.text)); !ok || !slices.Equal(set, c.want) {
			t.Errorf("%s: %v, %v", c.text, set, ok)
		}
	}
}

// There may be MaxFew points, and not one more, whatever their labels.
func TestLeastMistakesOfManyPoints(t *testing.T) {
	for n := range 20 {
		for _, label := range []int{1, -1} {
			s := repeated(n, label, 9, -9, 9, -9)
			set, ok := impl.LeastMistakes(s)
			if ok != (n <= 8) || len(set) > 0 {
				t.Errorf("%d points: %v, %v", n, set, ok)
			}
			if n < 2 {
				continue
			}
			s.Labels[n-1] = -label
			set, ok = impl.LeastMistakes(s)
			want := []int{n - 1}
			if n == 2 {
				want = []int{0}
			}
			if ok != (n <= 8) || ok && !slices.Equal(set, want) || !ok && len(set) > 0 {
				t.Errorf("%d points: %v, %v", n, set, ok)
			}
		}
	}
}

// The places are the first ones of the fewest without which weights and a bound are found, apart
// from the program, that part the Sample.
func TestLeastMistakesAreTheFirstOnes(t *testing.T) {
	count := [9]int{}
	check := func(s impl.Sample) {
		set, ok := impl.LeastMistakes(s)
		first := slices.IndexFunc(setsOf(len(s.Points), 8), func(set []int) bool { return partedBy(t, restOf(s, set)) })
		want := setsOf(len(s.Points), 8)[first]
		if !ok || !slices.Equal(set, want) {
			t.Fatalf("%v: %v, %v, not %v", s, set, ok, want)
		}
		count[len(set)]++
	}
	eachSmallSample(4, check)
	for seed := range int64(4) {
		eachMixed(82+seed, 8, check)
	}
	r := rand.New(rand.NewSource(86))
	for range 300 {
		check(randomSample(r, 8, 1+r.Intn(2), 1))
	}
	for n, times := range count[:4] {
		if times < 10 {
			t.Errorf("%d Samples with %d mistakes", times, n)
		}
	}
}

// No Plane that suits a Sample has fewer mistakes, also none that a run has.
func TestNoPlaneHasFewerMistakes(t *testing.T) {
	equal, more := 0, 0
	for seed := range int64(4) {
		eachPair(87+seed, func(s impl.Sample, p impl.Plane) {
			if len(s.Points) > 8 {
				return
			}
			set, ok := impl.LeastMistakes(s)
			mistakes, _ := impl.MistakesOf(s, p)
			if !ok || len(mistakes) < len(set) {
				t.Fatalf("%v: %v, %v, and the mistakes %v of %v", s, set, ok, mistakes, p)
			}
			if pocket, fine := impl.PocketPlane(s, 12); fine && len(mistakesBy(s, pocket)) < len(set) {
				t.Fatalf("%v: %v, but %v", s, set, pocket)
			}
			if len(mistakes) == len(set) {
				equal++
			} else {
				more++
			}
		})
	}
	if equal < 100 || more < 100 {
		t.Errorf("%d and %d", equal, more)
	}
}

// Turned labels have the same places; without these, the Sample can be parted, and with them only
// if there are none.
func TestLeastMistakesAreKept(t *testing.T) {
	eachMixed(91, 8, func(s impl.Sample) {
		set, _ := impl.LeastMistakes(s)
		labels, _ := impl.TurnLabels(s)
		if turned, ok := impl.LeastMistakes(labels); !ok || !slices.Equal(turned, set) {
			t.Fatalf("%v: %v, and turned %v, %v", s, set, turned, ok)
		}
		rest, _ := impl.PartSample(s, placesBesides(len(s.Points), set))
		if can, ok := impl.CanPart(rest); !ok || !can {
			t.Fatalf("%v cannot be parted without %v", s, set)
		}
		if len(set) == 0 {
			return
		}
		if can, ok := impl.CanPart(s); !ok || can {
			t.Fatalf("%v: %v, %v, %v", s, set, can, ok)
		}
	})
}

// placesBesides returns the places 0..n-1 that are not in a list.
func placesBesides(n int, list []int) []int {
	places := []int{}
	for i := range n {
		if !slices.Contains(list, i) {
			places = append(places, i)
		}
	}
	return places
}
