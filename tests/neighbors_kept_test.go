package tests

import (
	"math/rand"
	"slices"
	"testing"

	"loop.example/g01135/impl"
)

// The tests of this file check the guarantee of chapter 10, and what chapters 2, 3 and 4 promise of
// the points, Planes and counts of this one.

// Promise 10: the near label of one neighbor of a point of a clean Sample is its label. Its nearest
// place is that of the first one of the points that are the same.
func TestNearLabelOfOneNeighbor(t *testing.T) {
	wrong := 0
	check := func(s impl.Sample) {
		for i, x := range s.Points {
			near, one := impl.NearestPlaces(s, x, 1)
			label, two := impl.NearLabel(s, x, 1)
			first := slices.IndexFunc(s.Points, func(y []int) bool { return slices.Equal(x, y) })
			if !one || !two || near[0] != first || label != s.Labels[first] {
				t.Fatalf("%v, %v: %v, %v; %d, %v", s, x, near, one, label, two)
			}
			if label != s.Labels[i] {
				wrong++
				if isCleanBy(s) {
					t.Fatalf("%v, %v: %d", s, x, label)
				}
			}
		}
	}
	eachSmallest(4, check)
	eachFewPoints(580, 16, check)
	if wrong < 100 {
		t.Error("only", wrong)
	}
}

// The neighbors come in the order of their square distances (chapter 2). The nearest pair of chapter
// 4 is nearest to each other among the points with the other label.
func TestDistancesOfNeighbors(t *testing.T) {
	pairs := 0
	eachFewPoints(581, 16, func(s impl.Sample) {
		for _, x := range s.Points {
			near, ok := impl.NearestPlaces(s, x, len(s.Points))
			last := -1
			for _, place := range near {
				far, fine := impl.SquareDistance(s.Points[place], x)
				if !ok || !fine || far < last {
					t.Fatalf("%v, %v: %v, but %d behind %d", s, x, near, far, last)
				}
				last = far
			}
		}
		one, other, least, ok := impl.NearestPair(s)
		if !ok {
			return
		}
		pairs++
		for _, place := range []int{one, other} {
			others, _ := impl.PointsWith(s, -s.Labels[place])
			part, fine := impl.PartSample(s, others)
			near, found := impl.NearestPlaces(part, s.Points[place], 1)
			if !fine || !found {
				t.Fatalf("%v: %v, %v", s, fine, found)
			}
			if far := distanceBy(s.Points[place], s.Points[others[near[0]]]); far != least {
				t.Fatalf("%v: the pair %d, %d with %d, but %d", s, one, other, least, far)
			}
		}
	})
	if pairs < 500 {
		t.Error("only", pairs)
	}
}

// prototypesOf returns what does not change with the place of a Sample: its neighbors, mistakes and
// prototypes.
func prototypesOf(s impl.Sample) []any {
	all := []any{}
	add := func(list []int, ok bool) { all = append(all, list, ok) }
	for k := 1; k <= len(s.Points); k++ {
		for _, x := range s.Points {
			add(impl.NearestPlaces(s, x, k))
			label, ok := impl.NearLabel(s, x, k)
			add([]int{label}, ok)
		}
		add(impl.LeftOutMistakes(s, k))
	}
	add(impl.CondensedPlaces(s))
	add(impl.FewestPlaces(s))
	return all
}

// Moved and lifted Samples have the same neighbors and prototypes. So have those with turned labels,
// with the other label where an odd number of neighbors decide.
func TestChangedSamplesHaveTheSameNeighbors(t *testing.T) {
	r := rand.New(rand.NewSource(582))
	count := map[string]int{}
	eachFewPoints(583, 12, func(s impl.Sample) {
		want := prototypesOf(s)
		same := func(name string, changed impl.Sample, ok bool) {
			if !ok {
				return
			}
			count[name]++
			if all := prototypesOf(changed); !sameText(all, want) {
				t.Fatalf("%v, %s: %v, not %v", s, name, all, want)
			}
		}
		moved, ok := impl.MoveSample(s, randomList(r, len(s.Points[0]), 1+r.Intn(9)))
		same("moved", moved, ok)
		lifted, ok := impl.LiftSample(s)
		same("lifted", lifted, ok)
		turned, _ := impl.TurnLabels(s)
		some, _ := impl.CondensedPlaces(s)
		few, _ := impl.FewestPlaces(s)
		others, _ := impl.CondensedPlaces(turned)
		less, _ := impl.FewestPlaces(turned)
		if !slices.Equal(some, others) || !slices.Equal(few, less) {
			t.Fatalf("%v: %v and %v, turned %v and %v", s, some, few, others, less)
		}
		for k := 1; k <= len(s.Points); k += 2 {
			label, _ := impl.NearLabel(s, s.Points[0], k)
			other, _ := impl.NearLabel(turned, s.Points[0], k)
			list, _ := impl.LeftOutMistakes(s, k)
			left, _ := impl.LeftOutMistakes(turned, k)
			if other != -label || !slices.Equal(list, left) {
				t.Fatalf("%v, %d: %d and %v, turned %d and %v", s, k, label, list, other, left)
			}
		}
	})
	if count["moved"] < 100 || count["lifted"] < 100 {
		t.Error(count)
	}
}

// In a joined Sample, the neighbors of both come in their order, and the forces of both are added.
func TestNeighborsAndForcesOfJoinedSamples(t *testing.T) {
	r := rand.New(rand.NewSource(584))
	for range 1000 {
		d, e := 1+r.Intn(4), 1+r.Intn(3)
		a, b := randomSample(r, 1+r.Intn(8), d, 3), randomSample(r, 1+r.Intn(8), d, 3)
		both, ok := impl.JoinSamples(a, b)
		x, n := randomList(r, d, 3), len(a.Points)
		all, one := impl.NearestPlaces(both, x, len(both.Points))
		near, two := impl.NearestPlaces(a, x, n)
		later, three := impl.NearestPlaces(b, x, len(b.Points))
		first, second := []int{}, []int{}
		for _, place := range all {
			if place < n {
				first = append(first, place)
			} else {
				second = append(second, place-n)
			}
		}
		if !ok || !one || !two || !three || !slices.Equal(first, near) || !slices.Equal(second, later) {
			t.Fatalf("%v and %v, %v: %v, but %v and %v", a, b, x, all, near, later)
		}
		counts, more := digits(r.Int(), 1000, n), digits(r.Int(), 1000, len(b.Points))
		force, one := impl.ForceOf(a, counts, e, x)
		other, two := impl.ForceOf(b, more, e, x)
		sum, three := impl.ForceOf(both, slices.Concat(counts, more), e, x)
		if !one || !two || !three || sum != force+other {
			t.Fatalf("%v and %v, %v: %d, but %d and %d", a, b, x, sum, force, other)
		}
	}
}

// The force of turned labels is that with the other sign, and their square is the same.
func TestForcesOfTurnedLabels(t *testing.T) {
	r := rand.New(rand.NewSource(585))
	eachFewPoints(586, 16, func(s impl.Sample) {
		turned, _ := impl.TurnLabels(s)
		for _, counts := range countsFor(r, len(s.Points)) {
			e, x := 1+r.Intn(3), pointsFor(r, s)[r.Intn(6)]
			force, one := impl.ForceOf(s, counts, e, x)
			other, two := impl.ForceOf(turned, counts, e, x)
			square, three := impl.KernelSquare(s, counts, e)
			same, four := impl.KernelSquare(turned, counts, e)
			if !one || !two || !three || !four || other != -force || same != square {
				t.Fatalf("%v, %v, %d: %d and %d; %d and %d", s, counts, e, force, other, square, same)
			}
		}
	})
}

// checkPlaneOfCounts checks, if counts have a Plane (chapter 3), that its sides are those of degree 1,
// and its mistakes too. It returns whether there is a Plane.
func checkPlaneOfCounts(t *testing.T, s impl.Sample, counts []int, points [][]int) bool {
	t.Helper()
	p, ok := impl.PlaneOfCounts(s, counts)
	if !ok {
		return false
	}
	for _, x := range points {
		force, one := impl.ForceOf(s, counts, 1, x)
		product, two := impl.ProductOf(p, x)
		side, three := impl.SideOf(p, x)
		if !one || !two || !three || force != product-p.Bound || labelBy(force) != side {
			t.Fatalf("%v, %v, %v: the force %d, but %d and the side %d", s, counts, x, force, product, side)
		}
	}
	mistakes, one := impl.KernelMistakes(s, counts, 1)
	list, two := impl.MistakesOf(s, p)
	square, three := impl.KernelSquare(s, counts, 1)
	if !one || !two || !three || !slices.Equal(mistakes, list) || square != innerBy(p.Weights, p.Weights)+p.Bound*p.Bound {
		t.Fatalf("%v, %v: %v and %d, but %v and %v", s, counts, mistakes, square, list, p)
	}
	return true
}

// Promise 10: kernels of degree 1 are Planes.
func TestDegreeOneIsAPlane(t *testing.T) {
	r := rand.New(rand.NewSource(587))
	count := map[bool]int{}
	eachSmallSample(3, func(s impl.Sample) {
		for k := range power(4, len(s.Points)) {
			count[checkPlaneOfCounts(t, s, digits(k, 4, len(s.Points)), listsWithin(1, 9))]++
		}
	})
	eachFewPoints(588, 16, func(s impl.Sample) {
		for _, counts := range countsFor(r, len(s.Points)) {
			count[checkPlaneOfCounts(t, s, counts, append(pointsFor(r, s), s.Points...))]++
		}
	})
	if count[true] < 1000 || count[false] < 500 {
		t.Error(count)
	}
}

// A kernel run of degree 1 is a run of chapter 3 that goes on behind rounds without mistakes, and where
// a step would lead to no Plane.
func TestDegreeOneRunsAreRuns(t *testing.T) {
	made, calmly, none := 0, 0, 0
	eachSample(t, 589, func(s impl.Sample) {
		for passes := 1; passes <= 10; passes++ {
			counts, calm, one := impl.KernelRun(s, 1, passes)
			dual, two := impl.DualCounts(s, passes)
			p, mistakes, three := impl.RunPerceptron(s, passes)
			if !one || two != three {
				t.Fatalf("%v, %d: %v, %v, %v", s, passes, one, two, three)
			}
			if !two {
				none++
				continue
			}
			made++
			if !slices.Equal(counts, dual) || (calm > 0) != (mistakes[len(mistakes)-1] == 0) {
				t.Fatalf("%v, %d: %v, %d, but %v, %v", s, passes, counts, calm, dual, mistakes)
			}
			if same, ok := impl.PlaneOfCounts(s, counts); !ok || !sameText(same, p) {
				t.Fatalf("%v, %d: %v, but %v", s, passes, same, p)
			}
			if calm > 0 {
				calmly++
				if calm != passes-len(mistakes)+1 {
					t.Fatalf("%v, %d: %d, but %v", s, passes, calm, mistakes)
				}
			}
		}
	})
	if made < 2000 || calmly < 1000 || none < 1 {
		t.Error(made, calmly, none)
	}
}

// Promise 10: a Sample whose points some counts of degree 1 all give their labels can be parted, also
// if they make no Plane. With a higher degree, others can have such counts.
func TestCountsOfDegreeOnePart(t *testing.T) {
	r := rand.New(rand.NewSource(590))
	parted, far := 0, 0
	check := func(s impl.Sample, counts []int) {
		mistakes, one := impl.KernelMistakes(s, counts, 1)
		if !one || len(mistakes) > 0 {
			return
		}
		parted++
		if can, ok := impl.CanPart(s); !ok || !can {
			t.Fatalf("%v, %v: %v, %v", s, counts, can, ok)
		}
		if _, ok := impl.PlaneOfCounts(s, counts); !ok {
			far++
		}
	}
	eachSmallest(3, func(s impl.Sample) {
		for k := range power(4, len(s.Points)) {
			check(s, digits(k, 4, len(s.Points)))
		}
	})
	curved := 0
	eachMixed(591, 16, func(s impl.Sample) {
		for _, counts := range countsFor(r, len(s.Points)) {
			check(s, counts)
		}
		counts, _, one := impl.KernelRun(s, 1, 10)
		check(s, counts)
		_, calm, two := impl.KernelRun(s, 2, 10)
		if can, _ := impl.CanPart(s); calm > 0 && !can {
			curved++
		}
		if !one || !two {
			t.Fatal(s)
		}
	})
	if parted < 1000 || far < 20 || curved < 5 {
		t.Error(parted, far, curved)
	}
}

// The only Samples with a single fewest place are those with one label. Those with two of them can be
// parted: the PairPlane of the first one tells the points with its label.
func TestTwoPrototypesPart(t *testing.T) {
	count := map[int]int{}
	planes := 0
	eachClean(592, 8, func(s impl.Sample) {
		few, ok := impl.FewestPlaces(s)
		alike := !slices.Contains(s.Labels, -s.Labels[0])
		if !ok || (len(few) == 1) != alike || alike && few[0] != 0 {
			t.Fatalf("%v: %v, %v", s, few, ok)
		}
		count[min(len(few), 3)]++
		if len(few) != 2 {
			return
		}
		if can, fine := impl.CanPart(s); !fine || !can {
			t.Fatalf("%v: %v, but it cannot be parted", s, few)
		}
		p, ok := impl.PairPlane(s.Points[few[0]], s.Points[few[1]])
		if s.Labels[few[0]] == -1 && ok {
			p, ok = impl.TurnPlane(p)
		}
		if !ok {
			return
		}
		planes++
		if fits, fine := impl.FitsSample(s, p); !fine || !fits {
			t.Fatalf("%v: %v, but %v does not fit", s, few, p)
		}
	})
	if count[1] < 100 || count[2] < 500 || count[3] < 100 || planes < 500 {
		t.Error(count, planes)
	}
}

// The PairPlane of moved points is the PairPlane moved.
func TestMovedPairPlanes(t *testing.T) {
	r := rand.New(rand.NewSource(593))
	count := 0
	for range 3000 {
		d := 1 + r.Intn(4)
		x, y, by := randomList(r, d, 5), randomList(r, d, 5), randomList(r, d, 4)
		moved, ok := impl.MoveSample(sampleOf([]int{1, 1}, x, y), by)
		p, one := impl.PairPlane(x, y)
		far, two := impl.MovePlane(p, by)
		if !ok || !one {
			continue
		}
		q, three := impl.PairPlane(moved.Points[0], moved.Points[1])
		if two != three || !sameText(far, q) {
			t.Fatalf("%v, %v, by %v: %v, %v, not %v", x, y, by, q, three, far)
		}
		if two {
			count++
		}
	}
	if count < 500 {
		t.Error("only", count)
	}
}

// The mean plane of turned labels has the weights and the bound with the other signs.
func TestMeanPlanesOfTurnedLabels(t *testing.T) {
	eachFewPoints(594, 16, func(s impl.Sample) {
		turned, _ := impl.TurnLabels(s)
		weights, bound, one := impl.MeanPlane(s)
		others, other, two := impl.MeanPlane(turned)
		if one != two || !slices.Equal(others, otherSides(weights)) || other != -bound {
			t.Fatalf("%v: %v, %d, %v; turned %v, %d, %v", s, weights, bound, one, others, other, two)
		}
	})
}
