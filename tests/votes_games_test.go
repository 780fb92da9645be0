package tests

import (
	"fmt"
	"math"
	"math/rand"
	"slices"
	"sync"
	"testing"

	"loop.example/g01135/impl"
)

func TestVoteTable(t *testing.T) {
	for _, c := range []struct {
		v    impl.Vote
		text string
	}{
		{voteOf(1, 1), "01"}, {voteOf(20, 20), "01"}, {voteOf(2, 1, 1), "0001"}, {voteOf(1, 1, 1), "0111"}, {voteOf(1, 1, 0), "0101"},
		{voteOf(1, 0, 1), "0011"}, {voteOf(4, 3, 2, 1), "00010101"}, {voteOf(2, 1, 1, 1), "00010111"}, {voteOf(1, 1, 2, 3), "01111111"},
		{voteOf(80, 20, 20, 20, 20), "0000000000000001"}, {voteOf(1, 20, 20, 20, 20), "0111111111111111"}, {voteOf(1, 0, 0, 0, 1), "0000000011111111"},
		{voteOf(3, 1, 1, 1, 3), "0000000111111111"},
	} {
		_, want := tableOfText(c.text)
		if table, ok := impl.VoteTable(c.v); !ok || !slices.Equal(table, want) {
			t.Errorf("%v: %v, %v, not %s", c.v, table, ok, c.text)
		}
	}
	for n := 5; n <= 8; n++ {
		v := voteOf(n, slices.Repeat([]int{1}, n)...)
		table, one := impl.VoteTable(v)
		both, two := impl.BothTable(v, v)
		if one || len(table) > 0 || two || len(both) > 0 {
			t.Errorf("%v: %v, %v; %v, %v", v, table, one, both, two)
		}
	}
}

// checkVoteTable checks that the table of a Vote is that of the document and of its Plane, whose
// TableSample the Plane fits (chapter 2) and which can be parted (chapter 4); it is a threshold table
// that rises in each bit (chapter 5), and a weighted game.
func checkVoteTable(t *testing.T, v impl.Vote) {
	t.Helper()
	n, p := len(v.Weights), planeOf(v.Quota, v.Weights...)
	table, ok := impl.VoteTable(v)
	plane, fine := impl.PlaneTable(p)
	if !ok || !slices.Equal(table, voteTableBy(v)) || !fine || !slices.Equal(plane, table) || !impl.IsTable(n, table) {
		t.Fatalf("%v: %v, %v; that of the Plane is %v, %v", v, table, ok, plane, fine)
	}
	game, one := impl.IsGame(n, table)
	weighted, two := impl.IsWeighted(n, table)
	if !one || !game || !two || !weighted {
		t.Fatalf("%v: %v is a game: %v, %v; weighted: %v, %v", v, table, game, one, weighted, two)
	}
	s, one := impl.TableSample(n, table)
	fits, two := impl.FitsSample(s, p)
	can, three := impl.CanPart(s)
	if list, ok := impl.FindCertificate(s); !one || !two || !fits || !three || !can || ok || len(list) > 0 {
		t.Fatalf("%v: %v fits: %v, %v; can be parted: %v, %v, with the certificate %v", v, p, fits, two, can, three, list)
	}
	is, one := impl.IsThreshold(n, table)
	signs, two := impl.BitSigns(n, table)
	if !one || !is || !two || slices.Min(signs) < 0 {
		t.Fatalf("%v: a threshold table: %v, %v; the signs %v, %v", v, is, one, signs, two)
	}
}

// Promise 6: the table of a Vote is a weighted game.
func TestTablesOfVotesAreWeightedGames(t *testing.T) {
	eachVote(330, 4, func(v impl.Vote) { checkVoteTable(t, v) })
}

// Promise 6: what the table tells of wins and swings (chapter 5) is what the Vote tells; the dual Vote
// has the dual table.
func TestTablesOfVotesTellTheirPower(t *testing.T) {
	eachVote(331, 4, func(v impl.Vote) {
		n := len(v.Weights)
		table, _ := impl.VoteTable(v)
		count, one := impl.CountWins(v)
		swings, two := impl.SwingCounts(v)
		chow, three := impl.ChowNumbers(n, table)
		moves, four := impl.InfluencesOf(n, table)
		if !one || !two || !three || !four || count != chow[0] || !slices.Equal(swings, moves) {
			t.Fatalf("%v: %d and %v, but %v and %v", v, count, swings, chow, moves)
		}
		dual, _ := impl.DualVote(v)
		turned, one := impl.DualTable(n, table)
		other, two := impl.VoteTable(dual)
		if !one || !two || !slices.Equal(turned, other) {
			t.Fatalf("%v: the table %v, its dual %v; the table of the dual %v", v, table, turned, other)
		}
	})
}

func TestIsGame(t *testing.T) {
	for text, want := range map[string]bool{
		"01": true, "00": false, "11": false, "10": false, "0001": true, "0111": true, "0011": true, "0101": true, "0110": false, "1111": false,
		"0000": false, "1001": false, "0010": false, "00010111": true, "01010011": false, "00100111": false, "0000000000000001": true,
		"0000011101110111": true, "0000000100000010": false, "0111111111111110": false, "1111111111111111": false, "0000000000000000": false,
	} {
		n, table := tableOfText(text)
		if game, ok := impl.IsGame(n, table); !ok || game != want {
			t.Errorf("%s: %v, %v", text, game, ok)
		}
	}
	for _, c := range []struct {
		n     int
		table []int
	}{
		{0, nil}, {0, []int{0}}, {0, []int{1}}, {-1, []int{0, 1}}, {1, []int{0}}, {1, []int{0, 2}}, {1, []int{-1, 1}}, {2, []int{0, 1}}, {1, []int{0, 0, 0, 1}},
		{2, []int{0, 2, 0, 1}}, {5, append(make([]int, 31), 1)}, {math.MaxInt, []int{0, 1}}, {math.MinInt, []int{0, 1}}, {64, []int{0, 1}},
	} {
		game, one := impl.IsGame(c.n, c.table)
		weighted, two := impl.IsWeighted(c.n, c.table)
		v, three := impl.VoteOf(c.n, c.table)
		if game || one || weighted || two || three || !sameText(v, impl.Vote{}) {
			t.Errorf("%d, %v: %v, %v; %v, %v; %v, %v", c.n, c.table, game, one, weighted, two, v, three)
		}
	}
}

// knownVotes returns for each number of bits the Vote of the document for each table that a Vote with
// Weights of at most this number has, by the table's text.
var knownVotes = sync.OnceValue(func() []map[string]impl.Vote {
	list := []map[string]impl.Vote{{}}
	for n := 1; n <= 4; n++ {
		known := map[string]impl.Vote{}
		for k := range power(n+1, n) {
			weights := digits(k, n+1, n)
			slices.Reverse(weights) // so that the lists come in lexicographic order
			eachQuota(weights, func(v impl.Vote) {
				text := fmt.Sprint(voteTableBy(v))
				if before, ok := known[text]; !ok || sumBy(weights) < sumBy(before.Weights) {
					known[text] = v
				}
			})
		}
		list = append(list, known)
	}
	return list
})

// Of all tables, the games are those of the document; a game is weighted exactly if a Vote was found
// that has its table, and then VoteOf is the Vote of the document.
func TestGamesAndVotesOfAllTables(t *testing.T) {
	games, weights := make([]int, 5), make([]int, 5)
	eachTable(0, 4, func(n int, table []int) {
		game, one := impl.IsGame(n, table)
		weighted, two := impl.IsWeighted(n, table)
		v, three := impl.VoteOf(n, table)
		want, found := knownVotes()[n][fmt.Sprint(table)]
		if one != (n > 0) || game != isGameBy(table) || two != game || weighted != found || three != found || !sameText(v, want) {
			t.Fatalf("%v: a game: %v, %v; weighted: %v, %v; %v, %v, not %v, %v", table, game, one, weighted, two, v, three, want, found)
		}
		if game {
			games[n]++
		}
		if weighted {
			weights[n]++
			checkVoteTable(t, v)
		}
	})
	if !slices.Equal(games, []int{0, 1, 4, 18, 166}) || !slices.Equal(weights, []int{0, 1, 4, 18, 148}) {
		t.Errorf("%v games, of which %v are weighted", games, weights)
	}
}

// A game is weighted exactly if a Plane of any weights has its table, which is found out apart from
// the program; others have a trade and a certificate.
func TestGamesAreWeightedIfTheyCanBeParted(t *testing.T) {
	eachTable(1, 4, func(n int, table []int) {
		if !isGameBy(table) {
			return
		}
		s, _ := impl.TableSample(n, table)
		weighted, ok := impl.IsWeighted(n, table)
		_, traded := impl.FindTrade(n, table)
		list, certified := impl.FindCertificate(s)
		if !ok || weighted != partedBy(t, s) || traded == weighted || certified == weighted {
			t.Fatalf("%v: %v, %v; a trade: %v; %v, %v", table, weighted, ok, traded, list, certified)
		}
	})
}

func TestVoteOf(t *testing.T) {
	for _, c := range []struct {
		text string
		want impl.Vote
	}{
		{"01", voteOf(1, 1)}, {"0001", voteOf(2, 1, 1)}, {"0111", voteOf(1, 1, 1)}, {"0101", voteOf(1, 1, 0)}, {"0011", voteOf(1, 0, 1)},
		{"00010101", voteOf(3, 2, 1, 1)}, {"00010111", voteOf(2, 1, 1, 1)}, {"01111111", voteOf(1, 1, 1, 1)}, {"00000001", voteOf(3, 1, 1, 1)},
		{"00011111", voteOf(2, 1, 1, 2)}, {"00000111", voteOf(3, 1, 1, 2)}, {"0000000111111111", voteOf(3, 1, 1, 1, 3)},
		{"0000000101111111", voteOf(3, 1, 1, 1, 2)}, {"0000000011111111", voteOf(1, 0, 0, 0, 1)}, {"0000000000000001", voteOf(4, 1, 1, 1, 1)},
	} {
		n, table := tableOfText(c.text)
		if v, ok := impl.VoteOf(n, table); !ok || !sameText(v, c.want) {
			t.Errorf("%s: %v, %v, not %v", c.text, v, ok, c.want)
		}
	}
	// Voters 0 or 1 win with 2 or 3, or 0 with 1, and 2 with 3: these games are not weighted.
	for _, text := range []string{"0000011101110111", "0001000100011111"} {
		n, table := tableOfText(text)
		game, one := impl.IsGame(n, table)
		weighted, two := impl.IsWeighted(n, table)
		v, three := impl.VoteOf(n, table)
		if !one || !game || !two || weighted || three || !sameText(v, impl.Vote{}) {
			t.Errorf("%s: %v, %v; %v, %v; %v, %v", text, game, one, weighted, two, v, three)
		}
	}
}

// The Vote of the table of a Vote has the same wins, no greater sum, and so the same power; its table
// is the one of the least Plane (chapter 5) with this sum as its size.
func TestVotesOfTablesOfVotes(t *testing.T) {
	eachVote(332, 4, func(v impl.Vote) {
		n := len(v.Weights)
		table, _ := impl.VoteTable(v)
		small, ok := impl.VoteOf(n, table)
		same, fine := impl.SameWins(v, small)
		if !ok || !fine || !same || sumBy(small.Weights) > sumBy(v.Weights) || slices.Max(small.Weights) > n {
			t.Fatalf("%v: %v, %v; %v, %v", v, small, ok, same, fine)
		}
		if small.Quota > 1 {
			less := voteOf(small.Quota-1, small.Weights...)
			if same, _ := impl.SameWins(v, less); same {
				t.Fatalf("%v: %v, but %v has the same wins", v, small, less)
			}
		}
		if size, ok := impl.SizeOf(n, table); !ok || size != sumBy(small.Weights) {
			t.Fatalf("%v: %v, but the size is %d, %v", v, small, size, ok)
		}
	})
}

func TestBothTable(t *testing.T) {
	for _, c := range []struct {
		a, b impl.Vote
		text string
	}{
		{voteOf(1, 1), voteOf(3, 5), "01"}, {voteOf(1, 1, 0), voteOf(1, 0, 1), "0001"}, {voteOf(1, 1, 1), voteOf(1, 1, 0), "0101"},
		{voteOf(4, 3, 2, 1), voteOf(2, 1, 1, 1), "00010101"}, {voteOf(1, 0, 1, 1), voteOf(1, 1, 0, 0), "00010101"},
		{voteOf(1, 1, 1, 0, 0), voteOf(1, 0, 0, 1, 1), "0000011101110111"},
	} {
		_, want := tableOfText(c.text)
		if both, ok := impl.BothTable(c.a, c.b); !ok || !slices.Equal(both, want) {
			t.Errorf("%v, %v: %v, %v", c.a, c.b, both, ok)
		}
	}
	for _, c := range [][2]impl.Vote{
		{voteOf(1, 1), voteOf(1, 1, 1)}, {voteOf(1, 1, 1), voteOf(1, 1)}, {voteOf(1, 1, 1, 1), voteOf(1, 1, 1, 1, 1)}, {{}, {}}, {voteOf(1, 1), {}}, {{}, voteOf(1, 1)},
		{voteOf(1, 1, 1, 1, 1), voteOf(1, 1, 1, 1, 1, 1)}, {voteOf(1, 1, 1, 1, 1, 1), voteOf(1, 1, 1, 1, 1)}, {voteOf(0, 1), voteOf(1, 1)},
	} {
		if both, ok := impl.BothTable(c[0], c[1]); ok || len(both) > 0 {
			t.Errorf("%v: %v, %v", c, both, ok)
		}
	}
}

// checkBoth checks that the table of two Votes is a game with 1 where both tables have it, and returns
// whether it is weighted.
func checkBoth(t *testing.T, a, b impl.Vote) bool {
	t.Helper()
	n := len(a.Weights)
	both, ok := impl.BothTable(a, b)
	if !ok || len(both) != 1<<n {
		t.Fatalf("%v, %v: %v, %v", a, b, both, ok)
	}
	for k, bit := range both {
		set := placesAbove(bitPoints()[k])
		if (bit == 1) != (winsBy(a, set) && winsBy(b, set)) {
			t.Fatalf("%v, %v: %v", a, b, both)
		}
	}
	game, ok := impl.IsGame(n, both)
	weighted, fine := impl.IsWeighted(n, both)
	if !ok || !game || !fine {
		t.Fatalf("%v, %v: %v, %v; %v, %v", a, b, game, ok, weighted, fine)
	}
	return weighted
}

// The table of two Votes is a game. Of those of two Votes of 4 voters with weights of at most 1, some
// are not weighted.
func TestTablesOfTwoVotes(t *testing.T) {
	simple := []impl.Vote{}
	for k := range power(2, 4) {
		eachQuota(digits(k, 2, 4), func(v impl.Vote) { simple = append(simple, v) })
	}
	count := map[bool]int{}
	for i, a := range simple {
		for _, b := range simple[i:] {
			count[checkBoth(t, a, b)]++
		}
	}
	if count[true]+count[false] != 32*33/2 || count[false] == 0 {
		t.Error(count)
	}
	r := rand.New(rand.NewSource(333))
	for i := range 400 {
		n, limit := 1+i%4, 1+r.Intn(20)
		checkBoth(t, drawVote(r, n, limit), drawVote(r, n, limit))
	}
}
