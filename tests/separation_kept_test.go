package tests

import (
	"math/rand"
	"slices"
	"testing"

	"loop.example/g01135/impl"
)

// The tests of this file check what is kept when Samples and Planes of chapter 2 are changed, and
// what chapters 2 and 3 promise of the Planes that chapter 4 finds.

// checkSame checks that a changed Sample can be parted exactly if s can, and has the same
// certificate.
func checkSame(t *testing.T, s, changed impl.Sample) {
	t.Helper()
	before, one := impl.CanPart(s)
	behind, two := impl.CanPart(changed)
	if !one || !two || before != behind {
		t.Fatalf("%v: %v, %v; %v: %v, %v", s, before, one, changed, behind, two)
	}
	list, had := impl.FindCertificate(s)
	same, has := impl.FindCertificate(changed)
	if had != has || !slices.Equal(list, same) {
		t.Fatalf("%v: %v, %v; %v: %v, %v", s, list, had, changed, same, has)
	}
}

// Moving a Sample, turning its labels and lifting it does not change whether it can be parted.
func TestChangedSamplesArePartedAsBefore(t *testing.T) {
	r := rand.New(rand.NewSource(71))
	count := map[string]int{}
	eachMixed(72, 16, func(s impl.Sample) {
		turned, ok := impl.TurnLabels(s)
		if !ok {
			t.Fatalf("%v: %v", s, ok)
		}
		checkSame(t, s, turned)
		if lifted, ok := impl.LiftSample(s); ok {
			checkSame(t, s, lifted)
			count["lifted"]++
		}
		if len(s.Points) == 0 {
			return
		}
		for _, limit := range []int{1, 3, 9} {
			if moved, ok := impl.MoveSample(s, randomList(r, len(s.Points[0]), limit)); ok {
				checkSame(t, s, moved)
				count["moved"]++
			}
		}
	})
	if count["lifted"] < 500 || count["moved"] < 500 {
		t.Error(count)
	}
}

// The common point of a moved Sample is the common point moved.
func TestCommonPointsMove(t *testing.T) {
	count := 0
	r := rand.New(rand.NewSource(73))
	eachMixed(74, 10, func(s impl.Sample) {
		list, ok := impl.FindCertificate(s)
		if !ok {
			return
		}
		by := randomList(r, len(s.Points[0]), 4)
		moved, ok := impl.MoveSample(s, by)
		if !ok {
			return
		}
		count++
		before, one := impl.CommonPoint(s, list)
		behind, two := impl.CommonPoint(moved, list)
		if !one || !two {
			t.Fatalf("%v, %v: %v, %v", s, list, one, two)
		}
		for i, pair := range before {
			if behind[i] != [2]int{pair[0] + by[i]*pair[1], pair[1]} {
				t.Fatalf("%v, moved by %v: %v and %v", s, by, before, behind)
			}
		}
	})
	if count < 100 {
		t.Error("only", count)
	}
}

// A Sample that some Plane fits can be parted.
func TestSamplesThatAPlaneFits(t *testing.T) {
	fitted := 0
	for seed := range int64(3) {
		eachPair(75+seed, func(s impl.Sample, p impl.Plane) {
			if fits, _ := impl.FitsSample(s, p); !fits {
				return
			}
			fitted++
			can, one := impl.CanPart(s)
			list, two := impl.FindCertificate(s)
			if !one || !can || two || len(list) > 0 {
				t.Fatalf("%v fits %v: %v, %v; %v, %v", p, s, can, one, list, two)
			}
		})
	}
	if fitted < 500 {
		t.Error("only", fitted, "Planes fitted")
	}
}

// A Sample that was joined has the certificates of both; parts of one that can be parted can be
// parted, too.
func TestJoinedSamplesAndTheirParts(t *testing.T) {
	r := rand.New(rand.NewSource(78))
	count := map[bool]int{}
	for range 1500 {
		d := 1 + r.Intn(4)
		p := randomPlane(r, d, 9)
		a, b := randomSample(r, r.Intn(9), d, 9), randomSample(r, r.Intn(9), d, 9)
		if r.Intn(2) == 0 {
			a, b = labelledBy(a, p), labelledBy(b, p)
		}
		both, ok := impl.JoinSamples(a, b)
		if !ok {
			t.Fatalf("%v, %v", a, b)
		}
		can, _ := impl.CanPart(both)
		one, _ := impl.CanPart(a)
		two, _ := impl.CanPart(b)
		if can && (!one || !two) {
			t.Fatalf("%v can be parted, but %v and %v: %v, %v", both, a, b, one, two)
		}
		count[can]++
		if list, ok := impl.FindCertificate(a); ok {
			longer := append(slices.Clone(list), make([]int, len(b.Points))...)
			if is, fine := impl.IsCertificate(both, longer); !is || !fine {
				t.Fatalf("%v has not the certificate %v of %v", both, longer, a)
			}
		}
	}
	if count[true] < 200 || count[false] < 200 {
		t.Error(count)
	}
}

// checkPlane checks that a Plane that fits a Sample does so turned, moved and lifted, and that its
// margin and its bound on mistakes are those of a Plane that fits.
func checkPlane(t *testing.T, r *rand.Rand, s impl.Sample, p impl.Plane) {
	t.Helper()
	fits := func(s impl.Sample, p impl.Plane) {
		t.Helper()
		if fine, ok := impl.FitsSample(s, p); !ok || !fine {
			t.Fatalf("%v does not fit %v", p, s)
		}
	}
	fits(s, p)
	labels, _ := impl.TurnLabels(s)
	if turned, ok := impl.TurnPlane(p); ok {
		fits(labels, turned)
	}
	by := randomList(r, len(p.Weights), 2)
	moved, one := impl.MoveSample(s, by)
	far, two := impl.MovePlane(p, by)
	if one && two {
		fits(moved, far)
	}
	if lifted, ok := impl.LiftSample(s); ok {
		high, _ := impl.LiftPlane(p)
		fits(lifted, high)
	}
	margin, one := impl.MarginOf(s, p)
	bound, two := impl.MistakeBound(s, p)
	if !one || !two || margin <= 0 || bound < 0 {
		t.Fatalf("%v, %v: the margin %d, %v, the bound %d, %v", s, p, margin, one, bound, two)
	}
	checkMistakes(t, s, p)
}

// What chapters 2 and 3 promise of all Planes that fit holds for small Planes.
func TestSmallPlanesAreLikeOthers(t *testing.T) {
	r := rand.New(rand.NewSource(79))
	found := 0
	eachMixed(80, 12, func(s impl.Sample) {
		if p, ok := impl.SmallPlane(s, 3); ok {
			checkPlane(t, r, s, p)
			found++
		}
	})
	if found < 300 {
		t.Error("only", found, "small Planes")
	}
}

// A run whose last round has no mistake tells that a Sample can be parted, and no run of others
// has one.
func TestRunsTellWhatCanBeParted(t *testing.T) {
	count := map[bool]int{}
	eachMixed(81, 16, func(s impl.Sample) {
		_, mistakes, ok := impl.RunPerceptron(s, 12)
		if !ok {
			return
		}
		can, _ := impl.CanPart(s)
		if mistakes[len(mistakes)-1] == 0 && !can {
			t.Fatalf("%v cannot be parted, but has a round without mistakes", s)
		}
		count[can]++
	})
	if count[true] < 200 || count[false] < 200 {
		t.Error(count)
	}
}
