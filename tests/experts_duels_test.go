package tests

import (
	"fmt"
	"math/bits"
	"slices"
	"sync"
	"testing"

	"loop.example/g01135/impl"
)

// found is what the program finds for lives.
type found struct {
	worst int
	split []int
	has   bool
}

// foundDuels returns what the program finds for all lives, by their texts.
var foundDuels = sync.OnceValue(func() map[string]found {
	all := map[string]found{}
	eachLives(func(lives []int) {
		if worst, ok := impl.DuelWorst(lives); ok {
			split, has := impl.DuelSplit(lives)
			all[fmt.Sprint(lives)] = found{worst, split, has}
		}
	})
	return all
})

func TestIsLives(t *testing.T) {
	count := 0
	eachLives(func(lives []int) {
		count++
		if !impl.IsLives(lives) {
			t.Errorf("no lives: %v", lives)
		}
	})
	if count != 8+44+164+494 {
		t.Error(count)
	}
	for _, lives := range notLives() {
		if impl.IsLives(lives) {
			t.Errorf("lives: %.200v", lives)
		}
	}
	for n := range 7 {
		for _, list := range listsWithin(min(n, 4), 4) {
			list = append(list, make([]int, n-len(list))...)
			sum := sumBy(list)
			want := n >= 1 && n <= 4 && sum >= 1 && sum <= 8 && slices.Min(list) >= 0
			if is := impl.IsLives(list); is != want {
				t.Errorf("%v: %v", list, is)
			}
		}
	}
}

func TestDuels(t *testing.T) {
	for _, c := range []struct {
		lives []int
		worst int
		split []int
	}{
		{[]int{1}, 0, nil}, {[]int{1, 0}, 0, nil}, {[]int{1, 0, 0, 0}, 0, nil},
		{[]int{2}, 1, []int{1}}, {[]int{3}, 1, []int{1}}, {[]int{4}, 2, []int{2}}, {[]int{5}, 2, []int{2}}, {[]int{7}, 2, []int{2}}, {[]int{8}, 3, []int{4}},
		{[]int{2, 0, 0}, 1, []int{1, 0, 0}}, {[]int{8, 0}, 3, []int{4, 0}},
		// One expert that may be wrong: if nobody says 1, and the forecaster does, all is as before.
		{[]int{0, 1}, 1, []int{0, 0}}, {[]int{0, 0, 1}, 2, []int{0, 0, 0}}, {[]int{0, 0, 0, 1}, 3, []int{0, 0, 0, 0}},
		{[]int{1, 1}, 2, []int{0, 1}}, {[]int{0, 2}, 3, []int{0, 1}}, {[]int{2, 1}, 2, []int{0, 1}}, {[]int{0, 1, 0}, 1, []int{0, 0, 0}},
	} {
		worst, one := impl.DuelWorst(c.lives)
		split, two := impl.DuelSplit(c.lives)
		if !one || worst != c.worst || two != (c.worst > 0) || !slices.Equal(split, c.split) {
			t.Errorf("%v: %d, %v; %v, %v, not %d and %v", c.lives, worst, one, split, two, c.worst, c.split)
		}
	}
}

// There is no duel for lists that are no lives, and nothing to say if DuelWorst is 0.
func TestNoDuels(t *testing.T) {
	for _, lives := range notLives() {
		worst, one := impl.DuelWorst(lives)
		split, two := impl.DuelSplit(lives)
		if one || two || worst != 0 || len(split) > 0 {
			t.Errorf("%.200v: %d, %v; %v, %v", lives, worst, one, split, two)
		}
	}
	eachLives(func(lives []int) {
		worst, one := impl.DuelWorst(lives)
		split, two := impl.DuelSplit(lives)
		single := lives[0] == 1 && sumBy(lives) == 1
		if !one || (worst == 0) != single || two == single || single && len(split) > 0 || two && len(split) != len(lives) {
			t.Errorf("%v: %d, %v; %v, %v", lives, worst, one, split, two)
		}
	})
}

// Promise 11: duels halve the experts. With 2 to the power of k that may never be wrong, or some more,
// the forecaster can be made wrong on k days.
func TestDuelsHalveTheExperts(t *testing.T) {
	for n := 1; n <= impl.MaxExperts; n++ {
		for length := 1; length <= impl.MaxLives+1; length++ {
			lives := make([]int, length)
			lives[0] = n
			if worst, ok := impl.DuelWorst(lives); !ok || worst != bits.Len(uint(n))-1 {
				t.Errorf("%v: %d, %v", lives, worst, ok)
			}
		}
	}
}

// knownGames are played just once for all tests.
var knownGames = sync.OnceValue(func() games {
	g := games{}
	eachLives(func(lives []int) { g.worstBy(lives) })
	return g
})

// For all lives, going through all that the experts, the forecaster and the adversary can do on some
// days, the forecaster is wrong on as many; and the first list is found with which the adversary makes
// it be wrong on so many.
func TestDuelsBySearch(t *testing.T) {
	g := knownGames()
	count := map[int]int{}
	eachLives(func(lives []int) {
		worst, one := impl.DuelWorst(lives)
		split, two := impl.DuelSplit(lives)
		want := g.worstBy(lives)
		if !one || worst != want || two != (want > 0) {
			t.Fatalf("%v: %d, %v, %v, not %d", lives, worst, one, two, want)
		}
		count[worst]++
		if first, ok := g.splitBy(lives, want); two && (!ok || !slices.Equal(split, first)) {
			t.Fatalf("%v: %v, not %v, %v", lives, split, first, ok)
		}
	})
	if len(count) < 9 {
		t.Error(count)
	}
}

// A tree of days on all of which the forecaster is wrong has 2 to the power of these days ends. An
// expert is alive at an end if it is wrong on few enough days of the way to it, and at each end one
// must be alive.
func TestDuelsAreShort(t *testing.T) {
	sharp := 0
	eachLives(func(lives []int) {
		worst, ok := impl.DuelWorst(lives)
		alive := func(days int) int {
			sum := 0
			for most, n := range lives {
				sum += n * len(setsOf(days, most))
			}
			return sum
		}
		if !ok || alive(worst) < 1<<worst || worst >= enough {
			t.Fatalf("%v: %d, %v, with %d alive", lives, worst, ok, alive(worst))
		}
		if alive(worst+1) < 1<<(worst+1) {
			sharp++
		}
	})
	if sharp < 500 {
		t.Error("only", sharp)
	}
}

// The adversary that has the experts say what DuelSplit tells makes the forecaster be wrong day by day,
// whatever it says, until it has been wrong on DuelWorst days.
func TestDuelsArePlayed(t *testing.T) {
	ends := 0
	var play func(lives []int, days int)
	play = func(lives []int, days int) {
		if days == 0 {
			ends++
			if !impl.IsLives(lives) {
				t.Fatal(lives)
			}
			return
		}
		f, ok := foundDuels()[fmt.Sprint(lives)]
		if !ok || !f.has || f.worst < days || len(f.split) != len(lives) {
			t.Fatalf("%v, %d: %v, %v", lives, days, f, ok)
		}
		for _, wrong := range [][]int{f.split, differenceBy(lives, f.split)} {
			play(leftBy(lives, wrong), days-1)
		}
	}
	eachLives(func(lives []int) {
		play(lives, foundDuels()[fmt.Sprint(lives)].worst)
	})
	if ends < 2000 {
		t.Error("only", ends)
	}
}

// A forecaster that looks for what leaves less to the adversary is wrong on at most DuelWorst days: for
// all that the experts can say, one of both Truths is of no use to the adversary.
func TestDuelsAreDefended(t *testing.T) {
	tried := 0
	eachLives(func(lives []int) {
		worst := foundDuels()[fmt.Sprint(lives)].worst
		for _, part := range partsBy(lives) {
			tried++
			ends := []int{}
			for _, wrong := range [][]int{part, differenceBy(lives, part)} {
				left := leftBy(lives, wrong)
				more, ok := foundDuels()[fmt.Sprint(left)]
				switch {
				case !ok:
					ends = append(ends, 0) // the Truth is then what the forecaster says
				case more.worst > worst:
					t.Fatalf("%v: %d, but %d behind %v", lives, worst, more.worst, wrong)
				default:
					ends = append(ends, more.worst+1)
				}
			}
			if slices.Min(ends) > worst {
				t.Fatalf("%v: %d, but %v with %v", lives, worst, ends, part)
			}
		}
	})
	if tried < 5000 {
		t.Error("only", tried)
	}
}

// widerBy returns a list of MaxLives + 1 numbers, those behind some others being 0.
func widerBy(list []int) []int {
	return append(slices.Clone(list), make([]int, 4-len(list))...)
}

// Places without experts change nothing.
func TestDuelsOfLongerLists(t *testing.T) {
	eachLives(func(lives []int) {
		short, long := foundDuels()[fmt.Sprint(lives)], foundDuels()[fmt.Sprint(widerBy(lives))]
		if short.has {
			short.split = widerBy(short.split)
		}
		if !sameText(short, long) {
			t.Fatalf("%v: %v, but %v", lives, short, long)
		}
	})
}

// Promise 11: DuelWorst never gets less with one more expert, nor if one may be wrong on one day more.
func TestMoreExpertsMakeDuelsNoShorter(t *testing.T) {
	same, greater := 0, 0
	check := func(lives, more []int) {
		few, many := foundDuels()[fmt.Sprint(lives)], foundDuels()[fmt.Sprint(more)]
		switch {
		case many.worst < few.worst:
			t.Fatalf("%v: %d, but %v: %d", lives, few.worst, more, many.worst)
		case many.worst > few.worst:
			greater++
		default:
			same++
		}
	}
	eachLives(func(lives []int) {
		for place := range lives {
			if more := slices.Clone(lives); sumBy(lives) < 8 {
				more[place]++
				check(lives, more)
			}
			if more := slices.Clone(lives); place > 0 && lives[place-1] > 0 {
				more[place-1]--
				more[place]++
				check(lives, more)
			}
		}
	})
	if same < 500 || greater < 500 {
		t.Error(same, greater)
	}
}
