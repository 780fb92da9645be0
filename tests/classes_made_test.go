package tests

import (
	"math"
	"math/rand"
	"slices"
	"testing"

	"loop.example/g01135/impl"
)

func TestIsClass(t *testing.T) {
	for _, text := range []string{"", "-", "+", "- +", "-- -+ ++", "-- ++", "+-", "-- -+ +- ++", "--------", "++++++++", "-------- ++++++++"} {
		if class := classOfText(text); !impl.IsClass(class) {
			t.Error("no class:", class)
		}
	}
	for _, class := range [][][]int{{nil}, {{}}, labelsOf(8), labelsOf(8)[1:], labelsOf(8)[:255], labelsOf(8)[255:]} {
		if !impl.IsClass(class) {
			t.Error("no class:", class)
		}
	}
	for _, list := range notClasses() {
		if impl.IsClass(list) {
			t.Errorf("a class: %.200v", list)
		}
	}
}

// All lists of at most 3 lists of at most 2 numbers in -2..2 are held against the definition, and
// classes of which one label is another number, or two hypotheses are in the other order.
func TestClassesAreThoseOfTheDocument(t *testing.T) {
	count := map[bool]int{}
	check := func(list [][]int) {
		t.Helper()
		want := isClassBy(list)
		if impl.IsClass(list) != want {
			t.Fatalf("%v is a class: %v", list, !want)
		}
		count[want]++
	}
	rows := slices.Concat(listsWithin(0, 2), listsWithin(1, 2), listsWithin(2, 2))
	check([][]int{})
	for _, a := range rows {
		check([][]int{a})
		for _, b := range rows {
			check([][]int{a, b})
			for _, c := range rows {
				check([][]int{a, b, c})
			}
		}
	}
	r := rand.New(rand.NewSource(400))
	eachClass(401, func(class [][]int) {
		check(class)
		i, k := r.Intn(len(class)), r.Intn(len(class))
		class[i], class[k] = class[k], class[i]
		check(class)
		class[i], class[k] = class[k], class[i]
		if m := len(class[0]); m > 0 {
			class[i][r.Intn(m)] = []int{1, -1, 0, 2, -2}[r.Intn(5)]
			check(class)
		}
	})
	if count[true] < 500 || count[false] < 500 {
		t.Error(count)
	}
}

func TestPlaneClass(t *testing.T) {
	for _, c := range []struct{ points, text string }{
		{"none", ""}, {"+0", "- +"}, {"+9,-9,9,-9", "- +"}, {"+0 +1", "-- -+ +- ++"}, {"+0 +0", "-- ++"}, {"+3,4 +3,4", "-- ++"},
		{"+0 +1 +2", "--- --+ -++ +-- ++- +++"}, {"+0 +2 +1", "--- -+- -++ +-- +-+ +++"}, {"+0 +1 +0", "--- -+- +-+ +++"}, {"+5 +5 +5", "--- +++"},
		{"+0,0 +1,0 +0,1", "--- --+ -+- -++ +-- +-+ ++- +++"},
		{"+0,0 +0,1 +1,0 +1,1", "---- ---+ --+- --++ -+-- -+-+ -+++ +--- +-+- +-++ ++-- ++-+ +++- ++++"},
		{"+0 +1 +2 +3 +4 +5 +6 +7", "-------- -------+ ------++ -----+++ ----++++ ---+++++ --++++++ -+++++++ +------- ++------ +++----- ++++---- +++++--- ++++++-- +++++++- ++++++++"},
		{"+1 +1 +1 +1 +1 +1 +1 +1", "-------- ++++++++"},
	} {
		points := pointsOfText(t, c.points)
		if class, ok := impl.PlaneClass(points); !ok || !sameText(class, classOfText(c.text)) {
			t.Errorf("%s: %v, %v", c.points, class, ok)
		}
	}
	for _, none := range [][][]int{nil, {}} {
		if class, ok := impl.PlaneClass(none); !ok || len(class) != 1 || len(class[0]) != 0 {
			t.Errorf("no points: %v, %v", class, ok)
		}
	}
}

// There may be MaxLabels points, and not one more, all of the same length.
func TestPlaneClassOfOtherLists(t *testing.T) {
	for n := range 20 {
		class, ok := impl.PlaneClass(repeated(n, 1, 9, -9, 9, -9).Points)
		want := 0
		if n <= 8 {
			want = min(n+1, 2)
		}
		if ok != (n <= 8) || len(class) != want {
			t.Errorf("%d points: %v, %v", n, class, ok)
		}
	}
	lists := [][][]int{{{}}, {nil}, {{1}, {1, 2}}, {{1, 2}, {1}}, {{1}, nil}, {nil, {1}}, {{1}, {2}, {3, 4}}, {{1, 2, 3, 4}, {1, 2, 3}}, make([][]int, 8), make([][]int, 1000)}
	for _, x := range notPoints() {
		lists = append(lists, [][]int{x}, [][]int{{1, 2}, {3, 4}, x}, [][]int{x, {0}})
	}
	for _, points := range lists {
		if class, ok := impl.PlaneClass(points); ok || len(class) != 0 {
			t.Errorf("%.100v: %v, %v", points, class, ok)
		}
	}
}

// Chapters 2 and 4 hold for the points and Samples of PlaneClass: all points are points, and a
// list of labels is in the class exactly if CanPart reports true, so that it has no certificate;
// for few points, exactly if weights and a bound are found apart from the program.
func TestPlaneClassesAreThoseOfTheDocument(t *testing.T) {
	count := map[bool]int{}
	eachFew(402, 8, func(points [][]int) {
		class, ok := impl.PlaneClass(points)
		if !ok || !isClassBy(class) || len(class[0]) != len(points) {
			t.Fatalf("%v: %v, %v", points, class, ok)
		}
		for _, x := range points {
			if !impl.IsPoint(x) {
				t.Fatalf("%v is no point", x)
			}
		}
		for _, labels := range labelsOf(len(points)) {
			s := impl.Sample{Points: points, Labels: labels}
			in := slices.ContainsFunc(class, func(hypothesis []int) bool { return slices.Equal(hypothesis, labels) })
			can, fine := impl.CanPart(s)
			if !impl.IsSample(s) || !fine || can != in || len(points) <= 6 && in != partedBy(t, s) {
				t.Fatalf("%v: in the class %v, can be parted %v, %v", s, in, can, fine)
			}
			if list, found := impl.FindCertificate(s); found == in || found && !isCertificateBy(s, list) {
				t.Fatalf("%v: in the class %v, with the certificate %v, %v", s, in, list, found)
			}
			count[in]++
		}
		if partings, fine := impl.CountPartings(points); !fine || partings != len(class) {
			t.Fatalf("%v: %d, %v, and %d hypotheses", points, partings, fine, len(class))
		}
	})
	if count[true] < 2000 || count[false] < 2000 {
		t.Error(count)
	}
}

// Guarantee: the Vapnik number of PlaneClass is at most 1 more than the length of the points. It
// is so great if there are as many points in general position.
func TestVapnikNumberOfPlanes(t *testing.T) {
	found := map[bool]int{}
	eachFew(403, 8, func(points [][]int) {
		class, _ := impl.PlaneClass(points)
		number, ok := impl.VapnikNumber(class)
		if !ok || len(points) == 0 && number != 0 {
			t.Fatalf("%v: %d, %v", points, number, ok)
		}
		if len(points) == 0 {
			return
		}
		most := min(len(points), len(points[0])+1)
		general, _ := impl.InGeneralPosition(points)
		if number > most || general && number != most {
			t.Fatalf("%v: %d, in general position %v", points, number, general)
		}
		found[number == most]++
	})
	if found[true] < 40 || found[false] < 10 {
		t.Error(found)
	}
}

func TestIntervalClass(t *testing.T) {
	for m, text := range []string{
		"", "- +", "-- -+ +- ++", "--- --+ -+- -++ +-- ++- +++", "---- ---+ --+- --++ -+-- -++- -+++ +--- ++-- +++- ++++",
	} {
		if class, ok := impl.IntervalClass(m); !ok || !sameText(class, classOfText(text)) {
			t.Errorf("%d: %v, %v", m, class, ok)
		}
	}
	for m := range 9 {
		class, ok := impl.IntervalClass(m)
		want := slices.DeleteFunc(labelsOf(m), func(labels []int) bool {
			ones := placesAbove(labels)
			return len(ones) > 0 && len(ones) != ones[len(ones)-1]-ones[0]+1
		})
		if !ok || !impl.IsClass(class) || !sameText(class, want) || len(class) != 1+m*(m+1)/2 {
			t.Errorf("%d: %v, %v", m, class, ok)
		}
		if number, ok := impl.VapnikNumber(class); !ok || number != min(m, 2) {
			t.Errorf("%d: the Vapnik number is %d, %v", m, number, ok)
		}
	}
	for _, m := range notLabelCounts() {
		if class, ok := impl.IntervalClass(m); ok || len(class) != 0 {
			t.Errorf("%d: %v, %v", m, class, ok)
		}
	}
}

func TestTracesOf(t *testing.T) {
	for _, c := range []struct {
		class string
		set   []int
		want  string
	}{
		{"", nil, ""}, {"-", nil, ""}, {"- +", []int{}, ""}, {"- +", []int{0}, "- +"}, {"+", []int{0}, "+"},
		{"-- -+ ++", []int{0}, "- +"}, {"-- -+ ++", []int{1}, "- +"}, {"-- -+ ++", []int{0, 1}, "-- -+ ++"}, {"-- -+ ++", nil, ""},
		{"-++ +-- +-+", []int{1, 2}, "-- -+ ++"}, {"-++ +-- +-+", []int{0, 2}, "-+ +- ++"}, {"-++ +-- +-+", []int{0, 1}, "-+ +-"}, {"-++ +-+", []int{2}, "+"},
		{"---- -+-+ ++-+", []int{2}, "-"}, {"---- -+-+ ++-+", []int{1, 3}, "-- ++"}, {"---- -+-+ ++-+", []int{0, 1, 2, 3}, "---- -+-+ ++-+"},
		{"-------- -------+", []int{0, 1, 2, 3, 4, 5, 6}, "-------"}, {"-------- -------+", []int{7}, "- +"},
	} {
		if traces, ok := impl.TracesOf(classOfText(c.class), c.set); !ok || !sameText(traces, classOfText(c.want)) {
			t.Errorf("%s, %v: %v, %v", c.class, c.set, traces, ok)
		}
	}
	for _, set := range notSets() {
		if traces, ok := impl.TracesOf(classOfText("--- -++"), set); ok || len(traces) != 0 {
			t.Errorf("%v: %v, %v", set, traces, ok)
		}
	}
}

// notSets are lists that are no sets of 3 places.
func notSets() [][]int {
	return [][]int{
		{1, 0}, {0, 0}, {2, 2}, {0, 1, 1}, {0, 2, 1}, {2, 1, 0}, {1, 0, 2}, {3}, {0, 3}, {-1}, {-1, 0}, {8}, {0, 1, 2, 3}, {0, 1, 2, 2}, {-1, 0, 1, 2},
		{math.MinInt}, {math.MaxInt}, {math.MinInt, 0}, {0, math.MaxInt}, make([]int, 100),
	}
}

// The traces of each set are those of the document, and a class; traces of traces are those of
// the places that remain.
func TestTracesAreThoseOfTheDocument(t *testing.T) {
	r := rand.New(rand.NewSource(404))
	eachClass(405, func(class [][]int) {
		sets := setsOfPlaces(class)
		if len(sets) > 40 {
			r.Shuffle(len(sets), func(i, k int) { sets[i], sets[k] = sets[k], sets[i] })
			sets = append(sets[:20], []int{}, placesBesides(len(class[0]), nil))
		}
		for _, set := range sets {
			traces, ok := impl.TracesOf(class, set)
			if !ok || !sameText(traces, tracesBy(class, set)) || !isClassBy(traces) {
				t.Fatalf("%v, %v: %v, %v", class, set, traces, ok)
			}
			some := []int{}
			for i := range set {
				if r.Intn(2) == 0 {
					some = append(some, i)
				}
			}
			fewer, one := impl.TracesOf(traces, some)
			whole, two := impl.TracesOf(class, labelsBy(set, some))
			if !one || !two || !sameText(fewer, whole) {
				t.Fatalf("%v, %v, %v: %v, %v; %v, %v", class, set, some, fewer, one, whole, two)
			}
		}
	})
}
