package tests

import (
	"math/big"
	"math/rand"
	"slices"
	"testing"

	"loop.example/g01135/impl"
)

// vector is a list of whole numbers without limits.
type vector []*big.Int

func vectorOf(list []int) vector {
	v := vector{}
	for _, n := range list {
		v = append(v, big.NewInt(int64(n)))
	}
	return v
}

func (v vector) times(w vector) *big.Int {
	sum := new(big.Int)
	for i, n := range v {
		sum.Add(sum, new(big.Int).Mul(n, w[i]))
	}
	return sum
}

// plus returns the sum of v, each number times one factor, and w, times another one.
func (v vector) plus(factor *big.Int, w vector, other *big.Int) vector {
	sum := vector{}
	for i, n := range v {
		sum = append(sum, new(big.Int).Add(new(big.Int).Mul(factor, n), new(big.Int).Mul(other, w[i])))
	}
	return sum
}

// without returns v without the number at a place.
func (v vector) without(place int) vector { return slices.Concat(v[:place], v[place+1:]) }

// aheadOf returns d numbers whose product with each row is greater than 0, and whether there
// are some. It takes the rows one by one: numbers that are ahead of all rows before, but not of
// this one, are replaced by some that are level with it and ahead of those, put a little forward.
func aheadOf(rows []vector, d int) (vector, bool) {
	v := vectorOf(make([]int, d))
	for i, row := range rows {
		if row.times(v).Sign() > 0 {
			continue
		}
		level, ok := levelWith(row, rows[:i])
		if !ok {
			return nil, false
		}
		far := big.NewInt(1)
		for _, before := range rows[:i] {
			far.Add(far, new(big.Int).Abs(before.times(row)))
		}
		v = level.plus(far, row, big.NewInt(1))
	}
	return v, true
}

// levelWith returns numbers whose product with one row is 0, and with all others greater than 0,
// and whether there are some.
func levelWith(row vector, others []vector) (vector, bool) {
	p := slices.IndexFunc(row, func(n *big.Int) bool { return n.Sign() != 0 })
	if p < 0 {
		return nil, false
	}
	size, sign := new(big.Int).Abs(row[p]), big.NewInt(int64(row[p].Sign()))
	flat := []vector{}
	for _, other := range others { // the numbers besides p decide about that at p
		factor := new(big.Int).Mul(sign, other[p])
		flat = append(flat, other.plus(size, row, factor.Neg(factor)).without(p))
	}
	v, ok := aheadOf(flat, len(row)-1)
	if !ok {
		return nil, false
	}
	at := row.without(p).times(v)
	zero := vectorOf(make([]int, len(v)))
	return slices.Insert(v.plus(size, zero, size), p, at.Mul(at, sign.Neg(sign))), true
}

// partedBy tells apart from the program whether a Sample can be parted. If so, it finds weights
// and a bound, and the test fails if these do not give each point its label as its side.
func partedBy(t *testing.T, s impl.Sample) bool {
	t.Helper()
	if len(s.Points) == 0 {
		return true
	}
	rows := []vector{}
	for i, x := range s.Points {
		row := vectorOf(append(slices.Clone(x), -1))
		label := big.NewInt(int64(s.Labels[i]))
		rows = append(rows, row.plus(label, row, new(big.Int)))
	}
	d := len(s.Points[0])
	witness, ok := aheadOf(rows, d+1)
	if !ok {
		return false
	}
	for i, x := range s.Points {
		side := vectorOf(x).times(witness[:d]).Cmp(witness[d])
		if (side >= 0) != (s.Labels[i] == 1) {
			t.Fatalf("%v do not part %v", witness, s)
		}
	}
	return true
}

// isCertificateBy tells by the document's definition whether a list is a certificate.
func isCertificateBy(s impl.Sample, list []int) bool {
	if len(list) != len(s.Points) || len(list) == 0 {
		return false
	}
	if slices.Min(list) < 0 || slices.Max(list) == 0 || slices.Max(list) > 1000000000 {
		return false
	}
	sums := vectorOf(make([]int, len(s.Points[0])+1))
	for i, x := range s.Points {
		number := big.NewInt(int64(list[i] * s.Labels[i]))
		sums = sums.plus(big.NewInt(1), vectorOf(append(slices.Clone(x), 1)), number)
	}
	return !slices.ContainsFunc(sums, func(n *big.Int) bool { return n.Sign() != 0 })
}

// setsOf returns all sets of at most most of n places, by their number and then lexicographically.
func setsOf(n, most int) [][]int {
	all, last := [][]int{{}}, [][]int{{}}
	for range min(n, most) {
		next := [][]int{}
		for _, set := range last {
			from := 0
			if len(set) > 0 {
				from = set[len(set)-1] + 1
			}
			for place := from; place < n; place++ {
				next = append(next, append(slices.Clone(set), place))
			}
		}
		all, last = append(all, next...), next
	}
	return all
}

// partOf returns the points and labels at some places.
func partOf(s impl.Sample, places []int) impl.Sample {
	part := impl.Sample{}
	for _, place := range places {
		part.Points = append(part.Points, s.Points[place])
		part.Labels = append(part.Labels, s.Labels[place])
	}
	return part
}

// restOf returns the points and labels at all other places.
func restOf(s impl.Sample, places []int) impl.Sample {
	rest := []int{}
	for i := range s.Points {
		if !slices.Contains(places, i) {
			rest = append(rest, i)
		}
	}
	return partOf(s, rest)
}

// hardPartBy returns the first set of places, by their number and then lexicographically, whose
// points cannot be parted, and whether there is one.
func hardPartBy(t *testing.T, s impl.Sample) ([]int, bool) {
	t.Helper()
	for _, set := range setsOf(len(s.Points), len(s.Points)) {
		if !partedBy(t, partOf(s, set)) {
			return set, true
		}
	}
	return nil, false
}

// placesAbove returns the places at which a list has numbers greater than 0.
func placesAbove(list []int) []int {
	places := []int{}
	for i, n := range list {
		if n > 0 {
			places = append(places, i)
		}
	}
	return places
}

// divisorBy is the greatest common divisor of the numbers of a list.
func divisorBy(list []int) int {
	divisor := new(big.Int)
	for _, n := range vectorOf(list) {
		divisor.GCD(nil, nil, divisor, n.Abs(n))
	}
	return int(divisor.Int64())
}

// listsWithin returns all lists of n numbers in -m..m, in lexicographic order.
func listsWithin(n, m int) [][]int {
	all := [][]int{{}}
	for range n {
		longer := [][]int{}
		for _, list := range all {
			for number := -m; number <= m; number++ {
				longer = append(longer, append(slices.Clone(list), number))
			}
		}
		all = longer
	}
	return all
}

// labelsOf returns all lists of n labels.
func labelsOf(n int) [][]int {
	return slices.DeleteFunc(listsWithin(n, 1), func(list []int) bool { return slices.Contains(list, 0) })
}

// eachMixed calls a function with Samples of each length of points, from none up to most of
// them: with labels at random and those of a Plane, one of which is changed, and with the same
// point twice, with one and with both labels.
func eachMixed(seed int64, most int, call func(s impl.Sample)) {
	r := rand.New(rand.NewSource(seed))
	for d := 1; d <= 4; d++ {
		for n := 0; n <= most; n++ {
			for _, limit := range []int{1, 2, 9} {
				s := randomSample(r, n, d, limit)
				call(s)
				s = labelledBy(s, randomPlane(r, d, limit))
				call(s)
				if n < 2 {
					continue
				}
				i := r.Intn(n)
				s.Labels[i] *= -1
				call(s)
				k := (i + 1 + r.Intn(n-1)) % n
				s.Points[k] = slices.Clone(s.Points[i])
				s.Labels[k] = s.Labels[i]
				call(s)
				s.Labels[k] *= -1
				call(s)
			}
		}
	}
}
