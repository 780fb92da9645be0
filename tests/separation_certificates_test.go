package tests

import (
	"math"
	"math/big"
	"math/rand"
	"slices"
	"testing"

	"loop.example/g01135/impl"
)

func TestIsCertificate(t *testing.T) {
	const most = 1000000000
	for _, c := range []struct {
		text string
		list []int
		want bool
	}{
		{"-0,0 -1,1 +0,1 +1,0", []int{1, 1, 1, 1}, true},
		{"-0,0 -1,1 +0,1 +1,0", []int{2, 2, 2, 2}, true},
		{"-0,0 -1,1 +0,1 +1,0", []int{most, most, most, most}, true},
		{"-0,0 -1,1 +0,1 +1,0", []int{most + 1, most + 1, most + 1, most + 1}, false},
		{"-0,0 -1,1 +0,1 +1,0", []int{0, 0, 0, 0}, false},
		{"-0,0 -1,1 +0,1 +1,0", []int{-1, -1, -1, -1}, false},
		{"-0,0 -1,1 +0,1 +1,0", []int{1, 1, 1, 0}, false},
		{"-0,0 -1,1 +0,1 +1,0", []int{1, 1, 2, 0}, false},
		{"-0,0 -1,1 +0,1 +1,0", []int{1, 1, 2, 2}, false},
		{"-0,0 -1,1 +0,1 +1,0", []int{2, 1, 2, 1}, false},
		{"-0,0 -1,1 +0,1 +1,0", []int{1, 1, 1}, false},
		{"-0,0 -1,1 +0,1 +1,0", []int{1, 1, 1, 1, 0}, false},
		{"-0,0 -1,1 +0,1 +1,0", nil, false},
		{"+0 -1 +2", []int{1, 2, 1}, true},
		{"+0 -1 +2", []int{most / 2, most, most / 2}, true},
		{"+0 -1 +2", []int{most/2 + 1, most + 2, most/2 + 1}, false},
		{"+0 -1 +2", []int{1, 1, 1}, false}, // the place's sums are not the same
		{"+0 -1 +2", []int{0, 2, 1}, false}, // only the place's sums are the same
		{"+0 -1 +2", []int{1, 0, -1}, false},
		{"+5 -5", []int{1, 1}, true},
		{"+5 -5", []int{most, most}, true},
		{"+5 -5", []int{most, most + 1}, false},
		{"+5 -5", []int{2, 1}, false},
		{"+5 -5 +5", []int{1, 1, 0}, true},
		{"+5 -5 +5", []int{0, 7, 7}, true},
		{"+5 -5 +5", []int{3, 7, 4}, true},
		{"+5 -5 +5", []int{8, 7, -1}, false},
		{"+5 -5 +5", []int{0, 0, 0}, false},
		{"+5", []int{0}, false},
		{"+5", []int{1}, false},
		{"+0", []int{1}, false},
		{"+0 +0", []int{1, 1}, false},
		{"-0 -0", []int{1, -1}, false},
		{"none", nil, false},
		{"none", []int{}, false},
		{"none", []int{0}, false},
		{"none", []int{1}, false},
		{"+9,9,9,9 -9,9,9,9", []int{most, most}, true},
		{"+-9,-9,-9,-9 --9,-9,-9,-9", []int{most, most}, true},
		{"+9,9,9,9 --9,-9,-9,-9", []int{most, most}, false},
		{"+5 -5", []int{math.MaxInt, math.MaxInt}, false},
		{"+5 -5", []int{math.MinInt, math.MinInt}, false},
		{"+2 -2", []int{1 << 62, -1 << 62}, false},
		{"+0 -0", []int{1 << 62, 1 << 62}, false},
	} {
		if is, ok := impl.IsCertificate(sampleOfText(t, c.text), c.list); !ok || is != c.want {
			t.Errorf("%s, %v: %v, %v", c.text, c.list, is, ok)
		}
	}
	for _, n := range []int{15, 16} {
		s, list := repeated(n, 1, 9, -9, 9, -9), make([]int, n)
		s.Labels[n-1], list[0], list[n-1] = -1, most, most
		if is, ok := impl.IsCertificate(s, list); !ok || !is {
			t.Errorf("%v is a certificate of %v: %v, %v", list, s, is, ok)
		}
	}
}

// A list is a certificate just by the document's definition, for all lists of small numbers.
func TestCertificatesAreThoseOfTheDocument(t *testing.T) {
	count := map[bool]int{}
	check := func(s impl.Sample, list []int) {
		t.Helper()
		want := isCertificateBy(s, list)
		if is, ok := impl.IsCertificate(s, list); !ok || is != want {
			t.Fatalf("%v, %v: %v, %v", s, list, is, ok)
		}
		count[want]++
	}
	eachSmallSample(3, func(s impl.Sample) {
		for _, list := range listsWithin(len(s.Points), 2) {
			check(s, list)
		}
	})
	r := rand.New(rand.NewSource(60))
	eachMixed(61, 16, func(s impl.Sample) {
		list, ok := impl.FindCertificate(s)
		if !ok {
			return
		}
		times := 1 + r.Intn(500)
		for i := range list {
			list[i] *= times
		}
		check(s, list)
		i := r.Intn(len(list))
		list[i] += 1 + r.Intn(3)
		check(s, list)
		list[i] = 1000000000 + r.Intn(3)
		check(s, list)
	})
	if count[true] < 500 || count[false] < 500 {
		t.Error(count)
	}
}

func TestFindCertificate(t *testing.T) {
	for _, c := range []struct {
		text string
		want []int
	}{
		{"-0,0 -1,1 +0,1 +1,0", []int{1, 1, 1, 1}},
		{"+5 -5", []int{1, 1}},
		{"+9,9,9,9 -9,9,9,9", []int{1, 1}},
		{"+0 -1 +2", []int{1, 2, 1}},
		{"-0 +1 -2", []int{1, 2, 1}},
		{"+2 -1 +0", []int{1, 2, 1}},
		{"-1 +0 +3", []int{3, 2, 1}},
		{"+-9 -0 +9", []int{1, 2, 1}},
		{"+-9 -8 +9", []int{1, 18, 17}},
		{"+0 -0 +0 -0", []int{1, 1, 0, 0}},
		{"+0 +0 -0 -0", []int{1, 0, 1, 0}},
		{"+1 +0 -0 -1", []int{1, 0, 0, 1}},         // 0 and 3 come before 1 and 2
		{"+0 -1 +2 +1", []int{0, 1, 0, 1}},         // two points are fewer than the first three
		{"+0 -1 +2 -1", []int{1, 2, 1, 0}},         // the first one of several sets of three
		{"+0,0 -1,1 +2,2 -1,0", []int{1, 2, 1, 0}}, // on a line, with fewer points than the plane allows
		{"+0,0 +4,0 +0,4 -1,1", []int{2, 1, 1, 4}}, // within a triangle
		{"-0,0 -4,0 -0,4 +1,1", []int{2, 1, 1, 4}}, // with the other labels
		{"+0,0 +3,0 +0,3 -1,1", []int{1, 1, 1, 3}}, // in its middle
		{"+0,0 +4,0 +0,4 -2,2", []int{0, 1, 1, 2}}, // on one of its sides
		{"+0,0 +4,0 +0,4 -4,0", []int{0, 1, 0, 1}}, // on one of its corners
		{"+0,0 -1,1 +0,0 -0,0", []int{1, 0, 0, 1}}, // with the first of two that are the same
		{"+0,0,0 +6,0,0 +0,6,0 +0,0,6 -1,2,1", []int{2, 1, 2, 1, 6}},
		{"+0,0,0,0 +9,0,0,0 +0,9,0,0 +0,0,9,0 +0,0,0,9 -1,2,1,3", []int{2, 1, 2, 1, 3, 9}},
	} {
		s := sampleOfText(t, c.text)
		list, ok := impl.FindCertificate(s)
		can, fine := impl.CanPart(s)
		hard, found := impl.HardPart(s)
		if !ok || !fine || !found || can || !slices.Equal(list, c.want) || !slices.Equal(hard, placesAbove(c.want)) {
			t.Errorf("%s: %v, %v; %v, %v; %v, %v", c.text, list, ok, can, fine, hard, found)
		}
	}
}

func TestSamplesThatCanBeParted(t *testing.T) {
	samples := []impl.Sample{
		{}, {Points: [][]int{}, Labels: []int{}}, repeated(16, 1, 0), repeated(16, -1, 9, -9, 9, -9), repeated(1, 1, 0, 0, 0, 0),
	}
	for _, text := range []string{
		"+0", "-0", "+9", "--9,-9,-9,-9", "+0 +0", "-0 -0 -0", "+0 -1", "-0 +1", "+0 +1 -2", "-0 -0 +1 +1",
		"+1,2 -3,0 +-1,1", "+0,0 -1,1 -0,1 -1,0", "+9,9,9,9 --9,-9,-9,-9", "+9,9,9,9 -9,9,9,8", "+-9 +-8 -9 -8",
		"+0,0 +4,0 +0,4 -3,3", "+0,0 +4,0 -5,0 -1,1", "+0,0,0,0 -9,0,0,0 -0,9,0,0 -0,0,9,0 -0,0,0,9 +1,2,1,3",
	} {
		samples = append(samples, sampleOfText(t, text))
	}
	for _, s := range samples {
		can, one := impl.CanPart(s)
		list, two := impl.FindCertificate(s)
		hard, three := impl.HardPart(s)
		if !one || !can || two || three || len(list) > 0 || len(hard) > 0 {
			t.Errorf("%v: %v, %v; %v, %v; %v, %v", s, can, one, list, two, hard, three)
		}
	}
}

// checkParted checks promise 4 for a Sample: either weights and a bound that are found apart from
// the program give each point its label, or there is a certificate by the document's definition,
// on at most as many points as a point has numbers, and 2. It returns whether s can be parted.
func checkParted(t *testing.T, s impl.Sample) bool {
	t.Helper()
	can, one := impl.CanPart(s)
	list, two := impl.FindCertificate(s)
	if !one || two == can {
		t.Fatalf("%v: %v, %v; %v, %v", s, can, one, list, two)
	}
	if can != partedBy(t, s) {
		t.Fatalf("%v can be parted: %v", s, can)
	}
	if can {
		return true
	}
	is, three := impl.IsCertificate(s, list)
	if !three || !is || !isCertificateBy(s, list) || divisorBy(list) != 1 || len(placesAbove(list)) > len(s.Points[0])+2 {
		t.Fatalf("%v has the certificate %v; %v, %v", s, list, is, three)
	}
	return false
}

// Promise 4: a Sample has a certificate exactly if it cannot be parted.
func TestSamplesArePartedOrHaveACertificate(t *testing.T) {
	count := map[bool]int{}
	eachSmallSample(4, func(s impl.Sample) { count[checkParted(t, s)]++ })
	for seed := range int64(3) {
		eachMixed(62+seed, 16, func(s impl.Sample) { count[checkParted(t, s)]++ })
	}
	if count[true] < 500 || count[false] < 500 {
		t.Error(count)
	}
}

// Promise 4, for all labels of the corners of a line, a square and a cube.
func TestTablesArePartedOrHaveACertificate(t *testing.T) {
	for n := 1; n <= 3; n++ {
		parted, want := 0, []int{2, 4, 14, 104}[n]
		for _, labels := range labelsOf(1 << n) {
			table := []int{}
			for _, label := range labels {
				table = append(table, (label+1)/2)
			}
			s, ok := impl.TableSample(n, table)
			if !ok {
				t.Fatalf("%d, %v", n, table)
			}
			if checkParted(t, s) {
				parted++
			}
		}
		if parted != want {
			t.Errorf("%d of the tables of %d bits can be parted", parted, n)
		}
	}
}

// checkFirst checks that FindCertificate has the one certificate for the first smallest set of
// points that cannot be parted, and that these can be without any one of them.
func checkFirst(t *testing.T, s impl.Sample) {
	t.Helper()
	set, found := hardPartBy(t, s)
	list, one := impl.FindCertificate(s)
	hard, two := impl.HardPart(s)
	if one != found || two != found || !slices.Equal(hard, set) || !slices.Equal(placesAbove(list), set) {
		t.Fatalf("%v: %v, %v; %v, %v; not %v, %v", s, list, one, hard, two, set, found)
	}
	if found && (!isCertificateBy(s, list) || divisorBy(list) != 1) {
		t.Fatalf("%v: %v", s, list)
	}
	for i := range hard {
		rest, ok := impl.PartSample(s, slices.Delete(slices.Clone(hard), i, i+1))
		if can, fine := impl.CanPart(rest); !ok || !fine || !can {
			t.Fatalf("%v: %v cannot be parted without %d", s, hard, hard[i])
		}
	}
}

// The certificate is that for the first set of the fewest points that have one.
func TestCertificatesOfTheFirstSet(t *testing.T) {
	eachSmallSample(4, func(s impl.Sample) { checkFirst(t, s) })
	for seed := range int64(3) {
		eachMixed(65+seed, 8, func(s impl.Sample) { checkFirst(t, s) })
	}
	count := 0
	r := rand.New(rand.NewSource(68))
	for d := 1; d <= 4; d++ {
		for range 20 {
			s := randomSample(r, 9+r.Intn(8), d, 1+r.Intn(3))
			if can, ok := impl.CanPart(s); ok && !can {
				checkFirst(t, s)
				count++
			}
		}
	}
	if count < 40 {
		t.Error("only", count)
	}
}

// The certificates with the greatest numbers, of points at the limits of their numbers.
func TestGreatCertificates(t *testing.T) {
	greatest := 0
	r := rand.New(rand.NewSource(69))
	for range 3000 {
		s := randomSample(r, 6, 4, 9)
		for _, x := range s.Points {
			for i := range x {
				if r.Intn(3) > 0 {
					x[i] = 9 - 18*r.Intn(2)
				}
			}
		}
		if checkParted(t, s) {
			continue
		}
		list, _ := impl.FindCertificate(s)
		greatest = max(greatest, slices.Max(list))
	}
	if greatest < 10000 {
		t.Error("no certificate had greater numbers than", greatest)
	}
}

func TestCommonPoint(t *testing.T) {
	for _, c := range []struct {
		text string
		list []int
		want [][2]int
	}{
		{"-0,0 -1,1 +0,1 +1,0", []int{1, 1, 1, 1}, [][2]int{{1, 2}, {1, 2}}},
		{"-0,0 -1,1 +0,1 +1,0", []int{6, 6, 6, 6}, [][2]int{{1, 2}, {1, 2}}},
		{"+5 -5", []int{1, 1}, [][2]int{{5, 1}}},
		{"+-5 --5", []int{3, 3}, [][2]int{{-5, 1}}},
		{"+0 -0", []int{7, 7}, [][2]int{{0, 1}}},
		{"+0 -0", []int{1000000000, 1000000000}, [][2]int{{0, 1}}},
		{"+-9,9,0,-9 --9,9,0,-9", []int{1000000000, 1000000000}, [][2]int{{-9, 1}, {9, 1}, {0, 1}, {-9, 1}}},
		{"+0 -1 +2", []int{1, 2, 1}, [][2]int{{1, 1}}},
		{"-0 +1 -2", []int{1, 2, 1}, [][2]int{{1, 1}}},
		{"-0 -1 +0 +1", []int{2, 1, 2, 1}, [][2]int{{1, 3}}},
		{"-0 --1 +0 +-1", []int{2, 1, 2, 1}, [][2]int{{-1, 3}}},
		{"-0 --1 +0 +-1", []int{1, 5, 1, 5}, [][2]int{{-5, 6}}},
		{"+0,0,3 +1,0,-3 -0,0,3 -1,0,-3", []int{2, 4, 2, 4}, [][2]int{{2, 3}, {0, 1}, {-1, 1}}},
		{"+9 +8 -9 -8", []int{999999999, 1, 999999999, 1}, [][2]int{{8999999999, 1000000000}}},
		{"+5 -5 +4", []int{2, 2, 0}, [][2]int{{5, 1}}},
	} {
		if point, ok := impl.CommonPoint(sampleOfText(t, c.text), c.list); !ok || !slices.Equal(point, c.want) {
			t.Errorf("%s, %v: %v, %v", c.text, c.list, point, ok)
		}
	}
	for _, c := range []struct {
		text string
		list []int
	}{
		{"+5 -5", []int{0, 0}}, {"+5 -5", []int{-1, -1}}, {"+5 -5", []int{1, 2}}, {"+5 -5", []int{1}},
		{"+5 -5", []int{1, 1, 1}}, {"+5 -5", nil}, {"+5 -5", []int{1000000001, 1000000001}},
		{"+5 -4", []int{1, 1}}, {"none", nil}, {"none", []int{1}}, {"+5", []int{1}}, {"+0", []int{1}}, {"+0", []int{0}},
	} {
		if point, ok := impl.CommonPoint(sampleOfText(t, c.text), c.list); ok || len(point) > 0 {
			t.Errorf("%s, %v: %v, %v", c.text, c.list, point, ok)
		}
	}
}

// Both labels have the common point: the sums of their points, each times its number, divided by
// the sum of the numbers, in lowest terms.
func TestCommonPointsOfBothLabels(t *testing.T) {
	count := 0
	eachMixed(70, 16, func(s impl.Sample) {
		list, ok := impl.FindCertificate(s)
		if !ok {
			return
		}
		count++
		point, ok := impl.CommonPoint(s, list)
		if !ok || len(point) != len(s.Points[0]) {
			t.Fatalf("%v, %v: %v, %v", s, list, point, ok)
		}
		for _, label := range []int{1, -1} {
			for place, pair := range point {
				total, sum := 0, 0
				for i, x := range s.Points {
					if s.Labels[i] == label {
						total += list[i]
						sum += list[i] * x[place]
					}
				}
				want := big.NewRat(int64(sum), int64(total))
				if want.Num().Int64() != int64(pair[0]) || want.Denom().Int64() != int64(pair[1]) {
					t.Fatalf("%v, %v: %v, not %v at %d", s, list, point, want, place)
				}
			}
		}
	})
	if count < 200 {
		t.Error("only", count, "certificates")
	}
}
