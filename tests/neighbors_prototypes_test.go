package tests

import (
	"math/rand"
	"slices"
	"testing"

	"loop.example/g01135/impl"
)

func TestKeepsLabels(t *testing.T) {
	for _, c := range []struct {
		text   string
		places []int
		want   bool
	}{
		{"+1,2 -3,0 +-1,1", []int{0}, false},
		{"+1,2 -3,0 +-1,1", []int{0, 1}, true},
		{"+1,2 -3,0 +-1,1", []int{0, 2}, false},
		{"+1,2 -3,0 +-1,1", []int{1, 2}, true},
		{"+2,2 -3,0 +-1,1", []int{1, 2}, false}, // the first point is nearer to the second one
		{"+1,2 -3,0 +-1,1", []int{0, 1, 2}, true},
		{"+5", []int{0}, true},
		{"-5 -6", []int{1}, true},
		{"+5 -6", []int{0}, false},
		{"+5 -6", []int{1}, false},
		{"+5 -6", []int{0, 1}, true},
		{"+5 +5", []int{1}, true},
		{"+5 -5", []int{0, 1}, false}, // both are nearest to the first one
		{"+5 -5", []int{1}, false},
		{"-5 +9 +5", []int{0, 1, 2}, false},
		{"+0 -2 +1", []int{0, 1}, true}, // of those that are as near, the first one counts
		{"-2 +0 +1", []int{0, 1}, false},
		{"-2 +0 +1", []int{1, 2}, false},
		{"-2 +0 +1", []int{0, 2}, true},
		{"+9,9,9,9 --9,-9,-9,-9 -0,0,0,-1 +0,0,0,0", []int{0, 1}, true},
		{"+9,9,9,9 --9,-9,-9,-9 +0,0,0,-1 +0,0,0,0", []int{0, 1}, false},
	} {
		if keeps, ok := impl.KeepsLabels(sampleOfText(t, c.text), c.places); !ok || keeps != c.want {
			t.Errorf("%s, %v: %v, %v", c.text, c.places, keeps, ok)
		}
	}
}

// A list must be strictly ascending, and have places of the Sample and at least one.
func TestListsThatCannotKeepLabels(t *testing.T) {
	check := func(s impl.Sample, places []int) {
		t.Helper()
		if keeps, ok := impl.KeepsLabels(s, places); ok || keeps {
			t.Errorf("%.100v, %.100v: %v, %v", s, places, keeps, ok)
		}
	}
	for n := 2; n <= 16; n++ {
		for _, places := range notKeeping(n) {
			check(repeated(n, 1, 2, 3), places)
		}
	}
	for _, value := range samplesWithout() {
		for _, places := range [][]int{nil, {}, {0}, {0, 1}} {
			check(value.(impl.Sample), places)
		}
	}
}

// Of all small Samples, and of drawn ones, all lists of places keep the labels by the document's
// definition, or do not.
func TestKeepsLabelsBySearch(t *testing.T) {
	count := map[bool]int{}
	check := func(s impl.Sample) {
		n := len(s.Points)
		for _, places := range setsOf(n, n)[1:] {
			keeps, ok := impl.KeepsLabels(s, places)
			if !ok || keeps != keepsBy(s, places) {
				t.Fatalf("%v, %v: %v, %v", s, places, keeps, ok)
			}
			count[keeps]++
		}
		all, _ := impl.KeepsLabels(s, placesBesides(n, nil))
		if all != isCleanBy(s) { // all places keep the labels just of clean Samples
			t.Fatalf("%v: %v", s, all)
		}
	}
	eachSmallest(4, check)
	eachFewPoints(520, 5, check)
	if count[true] < 1000 || count[false] < 1000 {
		t.Error(count)
	}
}

func TestCondensedPlaces(t *testing.T) {
	for _, c := range []struct {
		text string
		want []int
	}{
		{"+1,2 -3,0 +-1,1", []int{0, 1}},
		{"+5", []int{0}},
		{"-5", []int{0}},
		{"+5 +5", []int{0}},
		{"-5 -6 -9 --9", []int{0}},
		{"+5 -6", []int{0, 1}},
		{"+5 +5 -6 -6", []int{0, 2}},
		{"+0 +4 -6", []int{0, 1, 2}}, // the second pass adds the place 1
		{"+0 -2 +1", []int{0, 1}},    // the last point is as near to both, and the first one counts
		{"-0 +2 +1", []int{0, 1, 2}}, // and so it does here
		{"--5 +-2 +6", []int{0, 1}},  // what was added counts at once
		{"-0,-2 +-1,0 +-2,0", []int{0, 1}},
		{"+-1,-1,1 +1,1,0 -0,1,-1 +0,0,0", []int{0, 1, 2, 3}}, // a pass goes on behind what it adds
		{"-2,-1,2,2 -0,-2,0,-1 +-1,1,2,-1 -0,0,1,-1", []int{0, 2, 3}},
		{"+-2,2,2,-2 +1,2,0,1 +1,2,-1,-1 --1,2,-1,-2", []int{0, 1, 3}}, // 1 was added behind 3, but comes before it
		{"+-1,-1 +1,-1 -0,0 -0,0 -1,0 +-1,-1 -0,0 -0,0", []int{0, 1, 2, 4}},
		{"-9,2 -6,-8 +-6,3 +0,8 +0,7 +-2,-9 -1,-5 -9,-5 -7,-1 --1,-3", []int{0, 1, 2, 5, 9}}, // in three passes
	} {
		s := sampleOfText(t, c.text)
		if places, ok := impl.CondensedPlaces(s); !ok || !slices.Equal(places, c.want) {
			t.Errorf("%s: %v, %v", c.text, places, ok)
		}
	}
}

func TestFewestPlaces(t *testing.T) {
	for _, c := range []struct {
		text string
		want []int
	}{
		{"+1,2 -3,0 +-1,1", []int{0, 1}},
		{"+5", []int{0}},
		{"-5 -6 -9 --9", []int{0}},
		{"+5 -6", []int{0, 1}},
		{"+5 +5 -6 -6", []int{0, 2}},
		{"+0 +4 -6", []int{1, 2}}, // the second point is nearer to the last one than to the first one
		{"+0 +5 -6", []int{1, 2}},
		{"+0 -2 +1", []int{0, 1}},
		{"-0 +2 +1", []int{0, 2}},
		{"-0 +1 -2", []int{0, 1, 2}},
		{"+0 -2 +4 -6", []int{0, 1, 2, 3}},
		{"--3,-4 -5,6 +-5,4", []int{0, 1, 2}},
		{"+-1,-1,1 +1,1,0 -0,1,-1 +0,0,0", []int{1, 2}},
		{"+-1,-1 +1,-1 -0,0 -0,0 -1,0 +-1,-1 -0,0 -0,0", []int{1, 4}},
		{"+0 +1 +2 +3 -4 -5 -6 -7", []int{0, 6}}, // 3 is as near to 0 as to 6
		{"-0 -1 -2 -3 +4 +5 +6 +7", []int{0, 6}},
		{"+7 +6 +5 +4 -3 -2 -1 -0", []int{0, 6}},
		{"-9 -9 -9 -9 -9 -9 -9 +-9", []int{0, 7}},
		{"+0 -1 +2 -3 +4 -5 +6 -7", []int{0, 1, 2, 3, 4, 5, 6, 7}},
	} {
		s := sampleOfText(t, c.text)
		if places, ok := impl.FewestPlaces(s); !ok || !slices.Equal(places, c.want) {
			t.Errorf("%s: %v, %v", c.text, places, ok)
		}
	}
}

// Samples with a conflict, those without points, and for the fewest places those with more than
// MaxFew points, fail.
func TestSamplesWithoutPrototypes(t *testing.T) {
	check := func(s impl.Sample, wantSome bool) {
		t.Helper()
		some, one := impl.CondensedPlaces(s)
		few, two := impl.FewestPlaces(s)
		if one != wantSome || two || one != (len(some) > 0) || len(few) > 0 {
			t.Errorf("%.100v: %v, %v; %v, %v", s, some, one, few, two)
		}
	}
	for _, value := range samplesWithout() {
		check(value.(impl.Sample), false)
	}
	for _, text := range []string{"+5 -5", "-5 +5", "+1 -2 +3 -1", "+1,2 -2,1 -1,3 -1,2", "+0,0,0,0 -0,0,0,1 -0,0,0,0", "-1 -1 -1 -1 -1 -1 -1 +1"} {
		check(sampleOfText(t, text), false)
	}
	for n := 9; n <= 16; n++ {
		check(repeated(n, 1, 1, 2), true)
		mixed := repeated(n, 1, 1, 2)
		mixed.Points[n-1] = []int{2, 2}
		mixed.Labels[n-1] = -1
		check(mixed, true)
		mixed.Points[n-1] = []int{1, 2}
		check(mixed, false)
	}
	for n := 1; n <= 8; n++ {
		few, ok := impl.FewestPlaces(repeated(n, -1, 1, 2))
		if !ok || !slices.Equal(few, []int{0}) {
			t.Errorf("%d points: %v, %v", n, few, ok)
		}
	}
}

// Promise 10: condensed places are those of the document, and keep the labels. Behind a pass in
// which some are added there is another one: some Samples need several passes.
func TestCondensedPlacesKeepTheLabels(t *testing.T) {
	count := map[int]int{}
	for seed := range int64(5) {
		eachClean(521+seed, 16, func(s impl.Sample) {
			places, one := impl.CondensedPlaces(s)
			want, passes := condensedBy(s)
			if !one || !slices.Equal(places, want) {
				t.Fatalf("%v: %v, %v, not %v", s, places, one, want)
			}
			count[passes]++
			keeps, two := impl.KeepsLabels(s, places)
			if !two || !keeps || !keepsBy(s, places) || places[0] != 0 {
				t.Fatalf("%v: %v, %v, %v", s, places, keeps, two)
			}
		})
	}
	if count[0] < 1000 || count[1] < 1000 || count[2] < 500 || count[3] < 20 {
		t.Error(count)
	}
}

// The fewest places are the first one of all lists that keep the labels, and no more than the
// condensed ones.
func TestFewestPlacesBySearch(t *testing.T) {
	fewer, asFew := 0, 0
	check := func(s impl.Sample) {
		few, one := impl.FewestPlaces(s)
		some, two := impl.CondensedPlaces(s)
		keeps, three := impl.KeepsLabels(s, few)
		if !one || !two || !three || !keeps || !slices.Equal(few, fewestBy(s)) || len(few) > len(some) {
			t.Fatalf("%v: %v, %v; %v, %v; %v", s, few, one, some, two, keeps)
		}
		if len(few) < len(some) {
			fewer++
		} else {
			asFew++
		}
	}
	eachClean(526, 8, check)
	eachFewPoints(527, 7, func(s impl.Sample) {
		if isCleanBy(s) {
			check(s)
		}
	})
	if fewer < 100 || asFew < 100 {
		t.Error(fewer, asFew)
	}
}

// A Sample is clean just if it has no FirstConflict: then it has condensed and fewest places.
func TestCleanSamplesHavePrototypes(t *testing.T) {
	count := map[bool]int{}
	r := rand.New(rand.NewSource(528))
	for range 3000 {
		s := randomSample(r, 1+r.Intn(8), 1+r.Intn(3), 1)
		_, _, conflict := impl.FirstConflict(s)
		_, one := impl.CondensedPlaces(s)
		_, two := impl.FewestPlaces(s)
		if conflict == isCleanBy(s) || one == conflict || two == conflict {
			t.Fatalf("%v: %v, %v, %v", s, conflict, one, two)
		}
		count[conflict]++
	}
	if count[true] < 500 || count[false] < 500 {
		t.Error(count)
	}
}
