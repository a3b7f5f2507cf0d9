package tests

import (
	"math"
	"slices"
	"testing"

	"loop.example/g01257/impl"
)

// callsOf returns the pairs whose people are told one behind the other.
func callsOf(people ...int) []impl.Pair {
	var list []impl.Pair
	for i := 0; i+1 < len(people); i += 2 {
		list = append(list, impl.Pair{A: people[i], B: people[i+1]})
	}
	return list
}

// manyCalls returns so many calls of the same two people.
func manyCalls(count int) []impl.Pair {
	return slices.Repeat(callsOf(0, 1), count)
}

// counted returns 0, 1, .., n - 1.
func counted(n int) []int {
	var list []int
	for i := range n {
		list = append(list, i)
	}
	return list
}

func TestHandsExample(t *testing.T) {
	p, ok := impl.CouplesParty(3)
	wantParty(t, "CouplesParty", p, ok, "6:0-2,0-4,1-2,1-4,2-4,2-5")
	if told, ok := impl.ToldNumbers(p); !ok || !slices.Equal(told, []int{0, 1, 2, 3, 4}) {
		t.Error("ToldNumbers", told, ok)
	}
	if number, ok := impl.SpouseNumber(p); !ok || number != 2 {
		t.Error("SpouseNumber", number, ok)
	}
	known, ok := impl.MakeStar(4, 2)
	if !ok || !sameLists(known, [][]int{{1, 2}, {2}, {}, {0, 2}}) {
		t.Error("MakeStar", known, ok)
	}
	if asked, ok := impl.QuestionsForStar(known); !ok || !slices.Equal(asked, callsOf(0, 1, 1, 2, 2, 3, 2, 0, 0, 2, 2, 1, 3, 2)) {
		t.Error("QuestionsForStar", asked, ok)
	}
	calls, ok := impl.GossipCalls(4)
	if !ok || !slices.Equal(calls, callsOf(0, 1, 2, 3, 0, 2, 1, 3)) {
		t.Error("GossipCalls", calls, ok)
	}
	if number, ok := impl.FirstHeard(4, calls, 3, 0); !ok || number != 3 {
		t.Error("FirstHeard", number, ok)
	}
}

func TestHandsConstants(t *testing.T) {
	if impl.MaxCalls != 60 {
		t.Error("MaxCalls", impl.MaxCalls)
	}
}

// couplesByTable returns the party of couples whose people are told one after the other.
func couplesByTable(couples int) impl.Party {
	var table friendTable
	for k := 1; k < couples; k++ {
		refused := []int{2 * k, 2*k + 1}
		for j := 1; j < k; j++ {
			refused = append(refused, 2*j+1)
		}
		for b := range 2 * couples {
			if !slices.Contains(refused, b) {
				table[2*k][b] = true
				table[b][2*k] = true
			}
		}
	}
	return partyOfTable(2*couples, table)
}

func TestCouplesParty(t *testing.T) {
	for couples, text := range map[int]string{1: "2:", 2: "4:0-2,1-2", 4: "8:0-2,0-4,0-6,1-2,1-4,1-6,2-4,2-5,2-6,2-7,4-6,4-7"} {
		p, ok := impl.CouplesParty(couples)
		wantParty(t, "CouplesParty", p, ok, text)
	}
	for couples := 1; couples <= 6; couples++ {
		p, ok := impl.CouplesParty(couples)
		if want := couplesByTable(couples); !ok || !sameParty(p, want) {
			t.Error("CouplesParty", couples, p, ok, "not", want)
		}
		if are, ok := impl.AreCouples(p); !ok || !are {
			t.Error("AreCouples", couples, are, ok)
		}
		if told, ok := impl.ToldNumbers(p); !ok || !slices.Equal(told, counted(2*couples-1)) {
			t.Error("ToldNumbers", couples, told, ok)
		}
		if number, ok := impl.SpouseNumber(p); !ok || number != couples-1 {
			t.Error("SpouseNumber", couples, number, ok)
		}
	}
	for _, couples := range extremes {
		if p, ok := impl.CouplesParty(couples); ok != (couples >= 1 && couples <= 6) || !ok && !isZeroParty(p) {
			t.Error("CouplesParty", couples, p, ok)
		}
	}
}

// TestAreCouples tries parties in which all but the host tell different numbers, some where just two of a couple shake hands, and some of an odd number of people.
func TestAreCouples(t *testing.T) {
	for _, x := range []struct {
		party string
		are   bool
		ok    bool
	}{
		{"0:", false, false}, {"1:", false, false}, {"3:", false, false}, {"3:1-2", false, false}, {"5:0-1,0-4,1-2,2-3,3-4", false, false}, {"11:0-10", false, false},
		{"2:", true, true}, {"4:0-2,1-2", true, true}, {"4:0-3,1-3", true, true}, {"6:0-3,0-5,1-3,1-5,3-4,3-5", true, true},
		{"2:0-1", false, true}, {"4:", false, true}, {"4:0-1,1-2", false, true}, {"4:1-2,2-3", false, true}, {"4:0-2,0-3", false, true}, {"4:1-2,1-3", false, true},
		{"4:0-2,0-3,1-2,1-3", false, true}, {"4:0-1,0-2,0-3,1-2,1-3,2-3", false, true}, {"6:0-2,0-4,1-2,1-4,2-4", false, true}, {"12:", false, true}, {"12:0-11", false, true},
	} {
		p := mustParse(t, x.party)
		if are, ok := impl.AreCouples(p); are != x.are || ok != x.ok {
			t.Error("AreCouples", x.party, are, ok)
		}
		told, ok := impl.ToldNumbers(p)
		if ok != x.are || ok && !slices.Equal(told, counted(p.People-1)) || !ok && told != nil {
			t.Error("ToldNumbers", x.party, told, ok)
		}
		number, ok := impl.SpouseNumber(p)
		if ok != x.are || ok && number != p.People/2-1 || !ok && number != 0 {
			t.Error("SpouseNumber", x.party, number, ok)
		}
	}
}

func TestHandsFailForWrongParties(t *testing.T) {
	for _, p := range wrongParties() {
		if are, ok := impl.AreCouples(p); ok || are {
			t.Error("AreCouples", p, are, ok)
		}
		if told, ok := impl.ToldNumbers(p); ok || told != nil {
			t.Error("ToldNumbers", p, told, ok)
		}
		if number, ok := impl.SpouseNumber(p); ok || number != 0 {
			t.Error("SpouseNumber", p, number, ok)
		}
	}
}

// fullFame returns the fame of n people who all know each other.
func fullFame(n int) [][]int {
	known := make([][]int, n)
	for a := range n {
		known[a] = slices.Delete(counted(n), a, a+1)
	}
	return known
}

// wrongFame returns lists that are no fame.
func wrongFame() [][][]int {
	return [][][]int{
		nil, {}, make([][]int, 13), make([][]int, 1000), fullFame(13),
		{{0}}, {{1}}, {{-1}}, {{math.MinInt}}, {{math.MaxInt}},
		{{1}, {1}}, {{0, 1}, {}}, {{}, {0, 1}}, {{2}, {}}, {{}, {2}}, {{1, 2}, {}}, {{-1, 1}, {}}, {{1, 1}, {}}, {{}, {0, 0}}, {{math.MinInt, 1}, {}}, {{1, math.MaxInt}, {}},
		{{2, 1}, {}, {}}, {{}, {2, 0}, {}}, {{}, {}, {1, 0}}, {{1, 2, 2}, {}, {}}, {{1, 2, 3}, {}, {}}, {{}, {0, 1, 2}, {}}, {{}, {}, {2}}, {{}, {}, make([]int, 1000)},
	}
}

func TestIsFame(t *testing.T) {
	for _, known := range [][][]int{
		{{}}, {nil}, {{}, {}}, {{1}, {}}, {{}, {0}}, {{1}, {0}}, {{1, 2}, {0, 2}, {0, 1}}, {{2}, {}, {0, 1}}, make([][]int, 12), fullFame(12), fullFame(11),
	} {
		if !impl.IsFame(known) {
			t.Error("IsFame", known, "is false")
		}
		if _, ok := impl.QuestionsForStar(known); !ok {
			t.Error("QuestionsForStar", known, "fails")
		}
	}
	for _, known := range wrongFame() {
		if impl.IsFame(known) {
			t.Error("IsFame", known, "is true")
		}
		if star, ok := impl.StarOf(known); ok || star != 0 {
			t.Error("StarOf", known, star, ok)
		}
		if asked, ok := impl.QuestionsForStar(known); ok || asked != nil {
			t.Error("QuestionsForStar", known, asked, ok)
		}
	}
}

// TestStars tries fame with a star and without one. A star of -1 is none.
func TestStars(t *testing.T) {
	for _, x := range []struct {
		known [][]int
		star  int
		asked []impl.Pair
	}{
		{[][]int{{}}, 0, nil},
		{[][]int{{}, {}}, -1, callsOf(0, 1, 1, 0)},
		{[][]int{{1}, {}}, 1, callsOf(0, 1, 1, 0)},
		{[][]int{{}, {0}}, 0, callsOf(0, 1, 1, 0)},
		{[][]int{{1}, {0}}, -1, callsOf(0, 1, 1, 0)},
		// The asking ends at the first no and at the first yes, even if more people are there.
		{[][]int{{}, {}, {}}, -1, callsOf(0, 1, 0, 2, 1, 0)},
		{[][]int{{}, {0}, {}}, -1, callsOf(0, 1, 0, 2, 1, 0, 2, 0)},
		{[][]int{{}, {0}, {0}}, 0, callsOf(0, 1, 0, 2, 1, 0, 2, 0)},
		{[][]int{{2}, {}, {0}}, -1, callsOf(0, 1, 0, 2, 2, 0)},
		{[][]int{{2}, {2}, {1}}, -1, callsOf(0, 1, 0, 2, 2, 0, 2, 1)},
		{[][]int{{2}, {}, {}}, -1, callsOf(0, 1, 0, 2, 2, 0, 2, 1, 1, 2)},
		{[][]int{{2}, {2}, {}}, 2, callsOf(0, 1, 0, 2, 2, 0, 2, 1, 1, 2)},
		{[][]int{{1, 2}, {2}, {}}, 2, callsOf(0, 1, 1, 2, 2, 0, 0, 2, 2, 1)},
		{[][]int{{1}, {}, {1}}, 1, callsOf(0, 1, 1, 2, 1, 0, 2, 1)},
		{[][]int{{1}, {}, {}}, -1, callsOf(0, 1, 1, 2, 1, 0, 2, 1)},
		{fullFame(3), -1, callsOf(0, 1, 1, 2, 2, 0)},
		{make([][]int, 4), -1, callsOf(0, 1, 0, 2, 0, 3, 1, 0)},
	} {
		star, ok := impl.StarOf(x.known)
		if ok != (x.star >= 0) || star != max(x.star, 0) {
			t.Error("StarOf", x.known, star, ok, "not", x.star)
		}
		if asked, ok := impl.QuestionsForStar(x.known); !ok || !slices.Equal(asked, x.asked) {
			t.Error("QuestionsForStar", x.known, asked, ok, "not", x.asked)
		}
	}
}

func TestMakeStar(t *testing.T) {
	for _, x := range []struct {
		n     int
		star  int
		known [][]int
	}{
		{1, 0, [][]int{{}}},
		{2, 0, [][]int{{}, {0}}},
		{2, 1, [][]int{{1}, {}}},
		{3, 0, [][]int{{}, {0, 2}, {0}}},
		{3, 2, [][]int{{1, 2}, {2}, {}}},
		{5, 1, [][]int{{1}, {}, {1, 3}, {1, 4}, {0, 1}}},
		{12, 11, [][]int{{1, 11}, {2, 11}, {3, 11}, {4, 11}, {5, 11}, {6, 11}, {7, 11}, {8, 11}, {9, 11}, {10, 11}, {11}, {}}},
	} {
		if known, ok := impl.MakeStar(x.n, x.star); !ok || !sameLists(known, x.known) {
			t.Error("MakeStar", x.n, x.star, known, ok, "not", x.known)
		}
	}
	for _, n := range extremes {
		for _, star := range extremes {
			known, ok := impl.MakeStar(n, star)
			if want := n >= 1 && n <= 12 && star >= 0 && star < n; ok != want || !ok && known != nil {
				t.Error("MakeStar", n, star, known, ok)
			}
		}
	}
}

// someCalls are n people and calls, or lists that are none.
type someCalls struct {
	n     int
	calls []impl.Pair
}

func wrongCalls() []someCalls {
	list := []someCalls{
		{0, callsOf(0, 1)}, {-1, callsOf(0, 1)}, {13, callsOf(0, 1)}, {13, callsOf(11, 12)}, {math.MaxInt, callsOf(0, 1)}, {math.MinInt, callsOf(0, 1)},
		{1, callsOf(0, 1)}, {1, callsOf(0, 0)}, {2, callsOf(0, 2)}, {2, callsOf(1, 0)}, {2, callsOf(1, 1)}, {2, callsOf(-1, 0)}, {2, callsOf(-1, 1)}, {2, callsOf(-2, -1)},
		{2, callsOf(math.MinInt, 1)}, {2, callsOf(0, math.MaxInt)}, {12, callsOf(0, 12)}, {12, callsOf(11, 12)}, {12, callsOf(math.MinInt, math.MaxInt)},
		{4, callsOf(0, 1, 2, 3, 0, 4)}, {4, callsOf(0, 1, 3, 2, 0, 2)}, {4, callsOf(2, 2, 0, 1)},
		{2, manyCalls(61)}, {12, manyCalls(61)}, {12, manyCalls(1000)}, {12, make([]impl.Pair, 60)}, {2, append(manyCalls(59), impl.Pair{A: 1, B: 2})},
	}
	for _, n := range extremes {
		if n < 1 || n > 12 {
			list = append(list, someCalls{n, nil})
		}
	}
	return list
}

func TestAreCalls(t *testing.T) {
	for _, x := range []someCalls{
		{1, nil}, {1, callsOf()}, {2, nil}, {12, nil}, {2, callsOf(0, 1)}, {2, callsOf(0, 1, 0, 1)}, {3, callsOf(1, 2, 0, 2, 0, 1)}, {12, callsOf(10, 11, 0, 11, 0, 1)},
		{2, manyCalls(59)}, {2, manyCalls(60)}, {12, manyCalls(60)},
	} {
		if !impl.AreCalls(x.n, x.calls) {
			t.Error("AreCalls", x.n, x.calls, "is false")
		}
	}
	for n := 1; n <= 12; n++ {
		for a := -1; a <= 13; a++ {
			for b := -1; b <= 13; b++ {
				if are := impl.AreCalls(n, callsOf(a, b)); are != (a >= 0 && a < b && b < n) {
					t.Error("AreCalls", n, a, b, are)
				}
			}
		}
	}
}

func TestNewsFailForWrongCalls(t *testing.T) {
	for _, x := range wrongCalls() {
		if impl.AreCalls(x.n, x.calls) {
			t.Error("AreCalls", x, "is true")
		}
		if news, ok := impl.NewsAfter(x.n, x.calls); ok || news != nil {
			t.Error("NewsAfter", x, news, ok)
		}
		if all, ok := impl.AllKnowAll(x.n, x.calls); ok || all {
			t.Error("AllKnowAll", x, all, ok)
		}
		if useless, ok := impl.UselessCalls(x.n, x.calls); ok || useless != nil {
			t.Error("UselessCalls", x, useless, ok)
		}
		for _, people := range callsOf(0, 0, 0, 1, 1, 0) {
			if number, ok := impl.FirstHeard(x.n, x.calls, people.A, people.B); ok || number != 0 {
				t.Error("FirstHeard", x, people, number, ok)
			}
		}
	}
}

// newsTold is what chapter 5 tells of some calls.
type newsTold struct {
	n       int
	calls   []impl.Pair
	news    [][]int
	all     bool
	useless []int
}

func TestNewsTold(t *testing.T) {
	four := [][]int{{0, 1, 2, 3}, {0, 1, 2, 3}, {0, 1, 2, 3}, {0, 1, 2, 3}}
	single := [][]int{{0}, {1}, {2}, {3}, {4}, {5}, {6}, {7}, {8}, {9}, {10}, {11}}
	for _, x := range []newsTold{
		{1, nil, [][]int{{0}}, true, nil},
		{2, nil, [][]int{{0}, {1}}, false, nil},
		{12, nil, single, false, nil},
		{2, callsOf(0, 1), [][]int{{0, 1}, {0, 1}}, true, nil},
		{2, callsOf(0, 1, 0, 1, 0, 1), [][]int{{0, 1}, {0, 1}}, true, []int{1, 2}},
		{3, callsOf(1, 2), [][]int{{0}, {1, 2}, {1, 2}}, false, nil},
		{3, callsOf(0, 1, 0, 1, 0, 2), [][]int{{0, 1, 2}, {0, 1}, {0, 1, 2}}, false, []int{1}},
		// Just one of both knows more here, so the call is not useless.
		{3, callsOf(0, 1, 1, 2, 0, 1), [][]int{{0, 1, 2}, {0, 1, 2}, {0, 1, 2}}, true, nil},
		{3, callsOf(0, 1, 1, 2, 1, 2, 0, 2, 0, 1), [][]int{{0, 1, 2}, {0, 1, 2}, {0, 1, 2}}, true, []int{2, 4}},
		{4, callsOf(0, 1, 2, 3, 0, 2), [][]int{{0, 1, 2, 3}, {0, 1}, {0, 1, 2, 3}, {2, 3}}, false, nil},
		{4, callsOf(0, 1, 2, 3, 0, 2, 1, 3), four, true, nil},
		{4, callsOf(0, 1, 2, 3, 0, 1, 2, 3), [][]int{{0, 1}, {0, 1}, {2, 3}, {2, 3}}, false, []int{2, 3}},
		{4, callsOf(0, 1, 2, 3, 0, 2, 1, 3, 0, 3), four, true, []int{4}},
		{12, callsOf(10, 11, 0, 11), append(append([][]int{{0, 10, 11}}, single[1:10]...), []int{10, 11}, []int{0, 10, 11}), false, nil},
	} {
		if news, ok := impl.NewsAfter(x.n, x.calls); !ok || !sameLists(news, x.news) {
			t.Error("NewsAfter", x.n, x.calls, news, ok, "not", x.news)
		}
		if all, ok := impl.AllKnowAll(x.n, x.calls); !ok || all != x.all {
			t.Error("AllKnowAll", x.n, x.calls, all, ok)
		}
		if useless, ok := impl.UselessCalls(x.n, x.calls); !ok || !slices.Equal(useless, x.useless) {
			t.Error("UselessCalls", x.n, x.calls, useless, ok, "not", x.useless)
		}
	}
}

// TestCallsAtTheLimit tries the most calls, of which only the last one, or only the first one, brings something.
func TestCallsAtTheLimit(t *testing.T) {
	calls := manyCalls(60)
	useless, ok := impl.UselessCalls(2, calls)
	if !ok || !slices.Equal(useless, counted(60)[1:]) {
		t.Error("UselessCalls of 60", useless, ok)
	}
	calls[59] = impl.Pair{A: 1, B: 2}
	if all, ok := impl.AllKnowAll(3, calls); !ok || all {
		t.Error("AllKnowAll of 60", all, ok)
	}
	if number, ok := impl.FirstHeard(3, calls, 0, 2); !ok || number != 60 {
		t.Error("FirstHeard of 60", number, ok)
	}
	calls[0] = impl.Pair{A: 0, B: 2}
	if all, ok := impl.AllKnowAll(3, calls); !ok || !all {
		t.Error("AllKnowAll of 60", all, ok)
	}
	if useless, ok := impl.UselessCalls(3, calls); !ok || !slices.Equal(useless, counted(59)[2:]) {
		t.Error("UselessCalls of 60", useless, ok)
	}
}

// TestFirstHeard tries calls that pass news on in time and too late. A number of -1 is none.
func TestFirstHeard(t *testing.T) {
	line := callsOf(0, 1, 1, 2, 2, 3)
	for _, x := range []struct {
		n      int
		calls  []impl.Pair
		a      int
		b      int
		number int
	}{
		{1, nil, 0, 0, 0}, {2, nil, 1, 1, 0}, {2, nil, 0, 1, -1}, {2, nil, 1, 0, -1}, {12, nil, 11, 11, 0},
		{2, callsOf(0, 1), 0, 1, 1}, {2, callsOf(0, 1), 1, 0, 1}, {2, callsOf(0, 1, 0, 1), 0, 1, 1}, {2, callsOf(0, 1), 1, 1, 0},
		{4, line, 0, 1, 1}, {4, line, 0, 2, 2}, {4, line, 0, 3, 3}, {4, line, 3, 2, 3}, {4, line, 3, 1, -1}, {4, line, 3, 0, -1}, {4, line, 1, 0, 1}, {4, line, 2, 1, 2}, {4, line, 2, 0, -1},
		{5, line, 0, 4, -1}, {5, line, 4, 0, -1}, {5, line, 4, 4, 0},
		{3, callsOf(0, 1, 0, 1, 0, 2, 1, 2), 2, 1, 4}, {3, callsOf(0, 1, 0, 1, 0, 2, 1, 2), 1, 2, 3},
	} {
		number, ok := impl.FirstHeard(x.n, x.calls, x.a, x.b)
		if ok != (x.number >= 0) || number != max(x.number, 0) {
			t.Error("FirstHeard", x, number, ok)
		}
	}
	for n := 1; n <= 12; n++ {
		for _, a := range extremes {
			inside := a >= 0 && a < n
			if number, ok := impl.FirstHeard(n, nil, a, a); ok != inside || number != 0 {
				t.Error("FirstHeard", n, a, a, number, ok)
			}
			if number, ok := impl.FirstHeard(n, nil, a, 0); ok != (a == 0) || number != 0 {
				t.Error("FirstHeard", n, a, 0, number, ok)
			}
			if number, ok := impl.FirstHeard(n, nil, 0, a); ok != (a == 0) || number != 0 {
				t.Error("FirstHeard", n, 0, a, number, ok)
			}
		}
	}
}

func TestFewestCallsAndRounds(t *testing.T) {
	calls := []int{0, 1, 3, 4, 6, 8, 10, 12, 14, 16, 18, 20}
	rounds := []int{0, 1, 3, 2, 4, 3, 4, 3, 5, 4, 5, 4}
	for n := 1; n <= 12; n++ {
		if count, ok := impl.FewestCalls(n); !ok || count != calls[n-1] {
			t.Error("FewestCalls", n, count, ok)
		}
		if count, ok := impl.RoundsForAll(n); !ok || count != rounds[n-1] {
			t.Error("RoundsForAll", n, count, ok)
		}
	}
	for _, n := range extremes {
		inside := n >= 1 && n <= 12
		if count, ok := impl.FewestCalls(n); ok != inside || !ok && count != 0 {
			t.Error("FewestCalls", n, count, ok)
		}
		if list, ok := impl.GossipCalls(n); ok != inside || !ok && list != nil {
			t.Error("GossipCalls", n, list, ok)
		}
		if count, ok := impl.RoundsForAll(n); ok != inside || !ok && count != 0 {
			t.Error("RoundsForAll", n, count, ok)
		}
	}
}

func TestGossipCalls(t *testing.T) {
	for n, want := range map[int][]impl.Pair{
		1: nil,
		2: callsOf(0, 1),
		3: callsOf(0, 1, 0, 2, 0, 1),
		5: callsOf(0, 4, 0, 1, 2, 3, 0, 2, 1, 3, 0, 4),
		6: callsOf(0, 4, 0, 5, 0, 1, 2, 3, 0, 2, 1, 3, 0, 4, 0, 5),
		7: callsOf(0, 4, 0, 5, 0, 6, 0, 1, 2, 3, 0, 2, 1, 3, 0, 4, 0, 5, 0, 6),
	} {
		if calls, ok := impl.GossipCalls(n); !ok || !slices.Equal(calls, want) {
			t.Error("GossipCalls", n, calls, ok, "not", want)
		}
	}
}

func TestRoundCalls(t *testing.T) {
	for rounds, want := range [][]impl.Pair{
		nil,
		callsOf(0, 1),
		callsOf(0, 1, 2, 3, 0, 2, 1, 3),
		callsOf(0, 1, 2, 3, 4, 5, 6, 7, 0, 2, 1, 3, 4, 6, 5, 7, 0, 4, 1, 5, 2, 6, 3, 7),
	} {
		if calls, ok := impl.RoundCalls(rounds); !ok || !slices.Equal(calls, want) {
			t.Error("RoundCalls", rounds, calls, ok, "not", want)
		}
	}
	for _, rounds := range append([]int{4, 5, 62, 63, 64}, extremes...) {
		if calls, ok := impl.RoundCalls(rounds); ok != (rounds >= 0 && rounds <= 3) || !ok && calls != nil {
			t.Error("RoundCalls", rounds, calls, ok)
		}
	}
}
