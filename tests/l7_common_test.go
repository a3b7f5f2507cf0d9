package tests

import (
	"math"
	"slices"
	"testing"

	"loop.example/g01257/impl"
)

// pairsOfFive is the party of the pairs of five things.
const pairsOfFive = "10:0-7,0-8,0-9,1-5,1-6,1-9,2-4,2-6,2-8,3-4,3-5,3-7,4-9,5-8,6-7"

// circleOfTwelve is a party with as many pairs as there may be people.
const circleOfTwelve = "12:0-1,0-11,1-2,2-3,3-4,4-5,5-6,6-7,7-8,8-9,9-10,10-11"

func TestCommonExample(t *testing.T) {
	p, ok := impl.PairParty(5)
	wantParty(t, "PairParty of five", p, ok, pairsOfFive)
	if p.People != 10 {
		t.Error("PairParty of five has", p.People, "people")
	}
	if equal, ok := impl.EqualNumber(p); !ok || equal != 3 {
		t.Error("EqualNumber", equal, ok)
	}
	if strong, ok := impl.StrongNumbers(p); !ok || !slices.Equal(strong, []int{10, 3, 0, 1}) {
		t.Error("StrongNumbers", strong, ok)
	}
	if shortest, ok := impl.ShortestRound(p); !ok || shortest != 5 {
		t.Error("ShortestRound", shortest, ok)
	}
	if widest, ok := impl.WidestDistance(p); !ok || widest != 2 {
		t.Error("WidestDistance", widest, ok)
	}
	if most, ok := impl.MostPeople(3, 2); !ok || most != 10 {
		t.Error("MostPeople", most, ok)
	}
	p, ok = impl.WindmillParty(2)
	wantParty(t, "WindmillParty of two", p, ok, "5:0-1,0-2,0-3,0-4,1-2,3-4")
	p, _ = impl.FullParty(4)
	p, ok = impl.LinesOf(p)
	if strong, fine := impl.StrongNumbers(p); !ok || !fine || !slices.Equal(strong, []int{6, 4, 2, 4}) {
		t.Error("StrongNumbers of lines", strong, ok, fine)
	}
}

func TestCommonConstants(t *testing.T) {
	if impl.MaxWalk != 10 {
		t.Error("MaxWalk", impl.MaxWalk)
	}
}

// commonTold is what chapter 7 tells of a whole party, with -1 for what there is not.
type commonTold struct {
	party      string
	friendly   bool
	politician int
	equal      int
	strong     []int
	widest     int
	shortest   int
}

func wantNumber(t *testing.T, what string, number int, ok bool, want int) {
	t.Helper()
	if ok != (want >= 0) || number != max(want, 0) {
		t.Error(what, number, ok, "not", want)
	}
}

func checkCommonTold(t *testing.T, p impl.Party, x commonTold) {
	t.Helper()
	hasPeople := p.People > 0
	if is, ok := impl.IsFriendly(p); ok != hasPeople || is != x.friendly {
		t.Error("IsFriendly", x.party, is, ok)
	}
	if is, ok := impl.IsWindmill(p); ok != hasPeople || is != x.friendly {
		t.Error("IsWindmill", x.party, is, ok)
	}
	politician, ok := impl.PoliticianOf(p)
	wantNumber(t, "PoliticianOf "+x.party, politician, ok, x.politician)
	equal, ok := impl.EqualNumber(p)
	wantNumber(t, "EqualNumber of "+x.party, equal, ok, x.equal)
	widest, ok := impl.WidestDistance(p)
	wantNumber(t, "WidestDistance of "+x.party, widest, ok, x.widest)
	shortest, ok := impl.ShortestRound(p)
	wantNumber(t, "ShortestRound of "+x.party, shortest, ok, x.shortest)
	if strong, ok := impl.StrongNumbers(p); ok != (x.strong != nil) || !slices.Equal(strong, x.strong) {
		t.Error("StrongNumbers", x.party, strong, ok, "not", x.strong)
	}
}

func TestCommonTold(t *testing.T) {
	for _, x := range []commonTold{
		{"0:", false, -1, -1, nil, -1, -1},
		{"1:", true, 0, 0, nil, 0, -1},
		{"2:", false, -1, 0, nil, -1, -1},
		{"2:0-1", false, 0, 1, nil, 1, -1},
		{"3:", false, -1, 0, nil, -1, -1},
		{"3:0-2", false, -1, -1, nil, -1, -1},
		{"3:0-2,1-2", false, 2, -1, nil, 2, -1},
		{"3:0-1,0-2,1-2", true, 0, 2, nil, 1, 3},
		{"4:0-1,2-3", false, -1, 1, []int{4, 1, 0, 0}, -1, -1},
		{"4:0-1,1-2,2-3", false, -1, -1, nil, 3, -1},
		{"4:0-1,0-3,1-2,2-3", false, -1, 2, []int{4, 2, 0, 2}, 2, 4},
		// Of two politicians the least one.
		{"4:0-1,0-2,1-2,1-3,2-3", false, 1, -1, nil, 2, 3},
		{"4:0-1,0-2,0-3,1-2,1-3,2-3", false, 0, 3, nil, 1, 3},
		// The person in the middle is the last one, the sails are mixed up.
		{"5:0-3,0-4,1-2,1-4,2-4,3-4", true, 4, -1, nil, 2, 3},
		{"5:0-1,0-4,1-2,2-3,3-4", false, -1, 2, []int{5, 2, 0, 1}, 2, 5},
		{"5:0-1,0-2,0-3,0-4", false, 0, -1, nil, 2, -1},
		{"5:0-1,0-2,1-2,3-4", false, -1, -1, nil, -1, 3},
		// A circle of six, in which strangers have one common friend or none.
		{"6:0-1,0-5,1-2,2-3,3-4,4-5", false, -1, 2, nil, 3, 6},
		// Two threes: friends have one common friend, strangers none.
		{"6:0-1,0-2,1-2,3-4,3-5,4-5", false, -1, 2, []int{6, 2, 1, 0}, -1, 3},
		// Two threes joined by three pairs: friends have one common friend or none.
		{"6:0-1,0-2,0-3,1-2,1-4,2-5,3-4,3-5,4-5", false, -1, 3, nil, 2, 3},
		// All have as many common friends, two and two, but not as many friends.
		{"7:0-1,0-2,0-3,0-4,0-5,0-6,1-2,3-4,5-6", true, 0, -1, nil, 2, 3},
		{"7:0-1,0-6,1-2,2-3,3-4,4-5,5-6", false, -1, 2, nil, 3, 7},
		{circleOfTwelve, false, -1, 2, nil, 6, 12},
		{"12:0-1,1-2,2-3,3-4,4-5,5-6,6-7,7-8,8-9,9-10,10-11", false, -1, -1, nil, 11, -1},
		{"12:", false, -1, 0, nil, -1, -1},
	} {
		checkCommonTold(t, mustParse(t, x.party), x)
	}
	full, _ := impl.FullParty(12)
	checkCommonTold(t, full, commonTold{"twelve friends", false, 0, 11, nil, 1, 3})
	fours, _ := impl.PartsParty([]int{4, 4, 4})
	checkCommonTold(t, fours, commonTold{"three tables of four", false, -1, 8, []int{12, 8, 4, 8}, 2, 3})
}

func TestCommonFriends(t *testing.T) {
	p := mustParse(t, "6:0-1,0-2,0-4,1-2,1-4,2-4,3-4")
	for _, x := range []struct {
		a    int
		b    int
		want []int
	}{
		{0, 1, []int{2, 4}},
		{1, 0, []int{2, 4}},
		{0, 2, []int{1, 4}},
		{0, 3, []int{4}},
		{3, 0, []int{4}},
		{3, 4, nil},
		{0, 5, nil},
		{5, 4, nil},
		{4, 1, []int{0, 2}},
	} {
		if common, ok := impl.CommonFriends(p, x.a, x.b); !ok || !slices.Equal(common, x.want) {
			t.Error("CommonFriends", x.a, x.b, common, ok, "not", x.want)
		}
	}
	full, _ := impl.FullParty(12)
	if common, ok := impl.CommonFriends(full, 11, 0); !ok || !slices.Equal(common, []int{1, 2, 3, 4, 5, 6, 7, 8, 9, 10}) {
		t.Error("CommonFriends of twelve", common, ok)
	}
}

func TestCommonTable(t *testing.T) {
	for _, x := range []struct {
		party string
		want  [][]int
	}{
		{"0:", nil},
		{"1:", [][]int{{0}}},
		{"2:", [][]int{{0, 0}, {0, 0}}},
		{"2:0-1", [][]int{{1, 0}, {0, 1}}},
		{"3:0-2,1-2", [][]int{{1, 1, 0}, {1, 1, 0}, {0, 0, 2}}},
		{"4:0-1,0-3,1-2,2-3", [][]int{{2, 0, 2, 0}, {0, 2, 0, 2}, {2, 0, 2, 0}, {0, 2, 0, 2}}},
		{"4:0-1,0-2,0-3,1-2", [][]int{{3, 1, 1, 0}, {1, 2, 1, 1}, {1, 1, 2, 1}, {0, 1, 1, 1}}},
	} {
		if table, ok := impl.CommonTable(mustParse(t, x.party)); !ok || !sameLists(table, x.want) {
			t.Error("CommonTable", x.party, table, ok, "not", x.want)
		}
	}
	full, _ := impl.FullParty(12)
	table, ok := impl.CommonTable(full)
	if !ok || len(table) != 12 {
		t.Fatal("CommonTable of twelve", table, ok)
	}
	for a, row := range table {
		want := repeated(12, 10)
		want[a] = 11
		if !slices.Equal(row, want) {
			t.Error("CommonTable of twelve", a, row, "not", want)
		}
	}
}

func TestWindmillParty(t *testing.T) {
	for sails, want := range []string{
		"1:",
		"3:0-1,0-2,1-2",
		"5:0-1,0-2,0-3,0-4,1-2,3-4",
		"7:0-1,0-2,0-3,0-4,0-5,0-6,1-2,3-4,5-6",
		"9:0-1,0-2,0-3,0-4,0-5,0-6,0-7,0-8,1-2,3-4,5-6,7-8",
		"11:0-1,0-2,0-3,0-4,0-5,0-6,0-7,0-8,0-9,0-10,1-2,3-4,5-6,7-8,9-10",
	} {
		p, ok := impl.WindmillParty(sails)
		wantParty(t, "WindmillParty", p, ok, want)
	}
	for _, sails := range append(extremes, -5, 4, 5) {
		p, ok := impl.WindmillParty(sails)
		if ok != (sails >= 0 && sails <= 5) || !ok && !isZeroParty(p) {
			t.Error("WindmillParty", sails, p, ok)
		}
	}
}

func TestCircleParty(t *testing.T) {
	for _, x := range []struct {
		n     int
		steps []int
		want  string
	}{
		{1, nil, "1:"},
		{1, []int{}, "1:"},
		{2, nil, "2:"},
		{2, []int{1}, "2:0-1"},
		{3, []int{1}, "3:0-1,0-2,1-2"},
		{4, []int{1}, "4:0-1,0-3,1-2,2-3"},
		{4, []int{2}, "4:0-2,1-3"},
		{4, []int{1, 2}, "4:0-1,0-2,0-3,1-2,1-3,2-3"},
		{5, []int{1}, "5:0-1,0-4,1-2,2-3,3-4"},
		{5, []int{2}, "5:0-2,0-3,1-3,1-4,2-4"},
		{6, []int{2}, "6:0-2,0-4,1-3,1-5,2-4,3-5"},
		{6, []int{3}, "6:0-3,1-4,2-5"},
		{6, []int{1, 3}, "6:0-1,0-3,0-5,1-2,1-4,2-3,2-5,3-4,4-5"},
		{12, nil, "12:"},
		{12, []int{1}, circleOfTwelve},
		{12, []int{6}, "12:0-6,1-7,2-8,3-9,4-10,5-11"},
	} {
		p, ok := impl.CircleParty(x.n, x.steps)
		wantParty(t, "CircleParty", p, ok, x.want)
	}
	full, _ := impl.FullParty(12)
	if p, ok := impl.CircleParty(12, []int{1, 2, 3, 4, 5, 6}); !ok || !sameParty(p, full) {
		t.Error("CircleParty with all steps", p, ok)
	}
	full, _ = impl.FullParty(11)
	if p, ok := impl.CircleParty(11, []int{1, 2, 3, 4, 5}); !ok || !sameParty(p, full) {
		t.Error("CircleParty of eleven with all steps", p, ok)
	}
}

func TestCirclePartyFails(t *testing.T) {
	for _, x := range []struct {
		n     int
		steps []int
	}{
		{0, nil}, {0, []int{0}}, {-1, nil}, {-2, []int{-1}}, {13, nil}, {13, []int{1}}, {14, []int{7}}, {math.MinInt, nil}, {math.MaxInt, nil}, {math.MaxInt, []int{1}},
		{1, []int{0}}, {1, []int{1}}, {2, []int{2}}, {3, []int{2}}, {4, []int{3}}, {5, []int{3}}, {5, []int{1, 3}}, {11, []int{6}}, {12, []int{7}},
		{5, []int{0}}, {5, []int{0, 1}}, {5, []int{-1}}, {5, []int{-1, 1}}, {5, []int{5}}, {5, []int{6}},
		{5, []int{1, 1}}, {5, []int{2, 1}}, {5, []int{2, 2}}, {12, []int{1, 2, 3, 6, 5}}, {12, []int{1, 2, 2, 3}},
		{12, []int{1, 2, 3, 4, 5, 6, 7}}, {12, []int{0, 1, 2, 3, 4, 5, 6}}, {12, []int{1, 2, 3, 4, 5, 6, 6}},
		{12, []int{math.MinInt}}, {12, []int{math.MaxInt}}, {12, []int{math.MinInt, 1}}, {12, []int{1, math.MaxInt}}, {12, repeated(1000, 1)},
	} {
		if p, ok := impl.CircleParty(x.n, x.steps); ok || !isZeroParty(p) {
			t.Error("CircleParty", x.n, x.steps, p, ok)
		}
	}
}

func TestPairParty(t *testing.T) {
	for i, want := range []string{"1:", "3:", "6:0-5,1-4,2-3", pairsOfFive} {
		p, ok := impl.PairParty(i + 2)
		wantParty(t, "PairParty", p, ok, want)
	}
	for _, n := range append(extremes, 4, 5) {
		p, ok := impl.PairParty(n)
		if ok != (n >= 2 && n <= 5) || !ok && !isZeroParty(p) {
			t.Error("PairParty", n, p, ok)
		}
	}
}

func TestLinesOf(t *testing.T) {
	for _, x := range []struct {
		party string
		want  string
	}{
		{"0:", "0:"},
		{"1:", "0:"},
		{"12:", "0:"},
		{"2:0-1", "1:"},
		{"12:3-11", "1:"},
		{"4:0-1,2-3", "2:"},
		{"3:0-1,0-2", "2:0-1"},
		{"3:0-2,1-2", "2:0-1"},
		{"3:0-1,1-2", "2:0-1"},
		{"4:0-1,1-2,2-3", "3:0-1,1-2"},
		{"4:0-1,0-2,0-3", "3:0-1,0-2,1-2"},
		{"5:0-3,1-2,1-4,3-4", "4:0-3,1-2,2-3"},
		{circleOfTwelve, "12:0-1,0-2,1-11,2-3,3-4,4-5,5-6,6-7,7-8,8-9,9-10,10-11"},
	} {
		p, ok := impl.LinesOf(mustParse(t, x.party))
		wantParty(t, "LinesOf "+x.party, p, ok, x.want)
	}
	star := mustParse(t, "12:0-1,0-2,0-3,0-4,0-5,0-6,0-7,0-8,0-9,0-10,0-11")
	full, _ := impl.FullParty(11)
	if p, ok := impl.LinesOf(star); !ok || !sameParty(p, full) {
		t.Error("LinesOf a star", p, ok)
	}
	// One more than twelve pairs is too many.
	for _, s := range []string{
		"12:0-1,0-2,0-11,1-2,2-3,3-4,4-5,5-6,6-7,7-8,8-9,9-10,10-11",
		"6:0-1,0-2,0-3,0-4,0-5,1-2,1-3,1-4,1-5,2-3,2-4,2-5,3-4",
		"6:0-1,0-2,0-3,0-4,0-5,1-2,1-3,1-4,1-5,2-3,2-4,2-5,3-4,3-5,4-5",
		pairsOfFive,
	} {
		if p, ok := impl.LinesOf(mustParse(t, s)); ok || !isZeroParty(p) {
			t.Error("LinesOf", s, p, ok)
		}
	}
	full, _ = impl.FullParty(12)
	if p, ok := impl.LinesOf(full); ok || !isZeroParty(p) {
		t.Error("LinesOf twelve friends", p, ok)
	}
}

func TestCountWalks(t *testing.T) {
	for _, x := range []struct {
		party  string
		a      int
		b      int
		counts []int // by length
	}{
		{"1:", 0, 0, []int{1, 0, 0, 0}},
		{"2:", 0, 1, []int{0, 0, 0, 0}},
		{"2:", 1, 1, []int{1, 0, 0, 0}},
		{"2:0-1", 0, 1, []int{0, 1, 0, 1, 0, 1, 0, 1, 0, 1, 0}},
		{"2:0-1", 1, 1, []int{1, 0, 1, 0, 1, 0, 1, 0, 1, 0, 1}},
		{"3:0-1,0-2,1-2", 2, 2, []int{1, 0, 2, 2, 6, 10, 22, 42, 86, 170, 342}},
		{"3:0-1,0-2,1-2", 2, 0, []int{0, 1, 1, 3, 5, 11, 21, 43, 85, 171, 341}},
		{"4:0-1,1-2,2-3", 0, 0, []int{1, 0, 1, 0, 2, 0, 5, 0, 13, 0, 34}},
		{"4:0-1,1-2,2-3", 3, 1, []int{0, 0, 1, 0, 3, 0, 8, 0, 21, 0, 55}},
		{"4:0-1,1-2,2-3", 1, 3, []int{0, 0, 1, 0, 3, 0, 8, 0, 21, 0, 55}},
		{"5:0-1,0-2,1-2,3-4", 0, 4, []int{0, 0, 0, 0, 0, 0, 0, 0, 0, 0, 0}},
		{"5:0-1,0-4,1-2,2-3,3-4", 0, 0, []int{1, 0, 2, 0, 6, 2, 20, 14, 70, 72, 254}},
	} {
		p := mustParse(t, x.party)
		for length, want := range x.counts {
			if count, ok := impl.CountWalks(p, x.a, x.b, length); !ok || count != want {
				t.Error("CountWalks", x.party, x.a, x.b, length, count, ok, "not", want)
			}
		}
	}
}

func TestCountRoundWalks(t *testing.T) {
	for _, x := range []struct {
		party  string
		counts []int // by length
	}{
		{"0:", []int{0, 0, 0, 0, 0, 0, 0, 0, 0, 0, 0}},
		{"1:", []int{1, 0, 0, 0, 0, 0, 0, 0, 0, 0, 0}},
		{"12:", []int{12, 0, 0, 0, 0, 0, 0, 0, 0, 0, 0}},
		{"2:0-1", []int{2, 0, 2, 0, 2, 0, 2, 0, 2, 0, 2}},
		{"3:0-1,0-2,1-2", []int{3, 0, 6, 6, 18, 30, 66, 126, 258, 510, 1026}},
		{"4:0-1,1-2,2-3", []int{4, 0, 6, 0, 14, 0, 36, 0, 94, 0, 246}},
		{pairsOfFive, []int{10, 0, 30, 0, 150, 120}},
	} {
		p := mustParse(t, x.party)
		for length, want := range x.counts {
			if count, ok := impl.CountRoundWalks(p, length); !ok || count != want {
				t.Error("CountRoundWalks", x.party, length, count, ok, "not", want)
			}
		}
	}
}

// TestWalksOfTwelveFriends tries the most walks that there can be.
func TestWalksOfTwelveFriends(t *testing.T) {
	full, _ := impl.FullParty(12)
	all, sign := 1, 1 // 11 to the power of the length, and -1
	for length := 0; length <= impl.MaxWalk; length++ {
		if count, ok := impl.CountRoundWalks(full, length); !ok || count != all+11*sign {
			t.Error("CountRoundWalks", length, count, ok, "not", all+11*sign)
		}
		if count, ok := impl.CountWalks(full, 5, 5, length); !ok || count != (all+11*sign)/12 {
			t.Error("CountWalks", length, count, ok, "not", (all+11*sign)/12)
		}
		if count, ok := impl.CountWalks(full, 11, 0, length); !ok || count != (all-sign)/12 {
			t.Error("CountWalks", length, count, ok, "not", (all-sign)/12)
		}
		all, sign = all*11, -sign
	}
}

func TestWalksFailForWrongLengths(t *testing.T) {
	for _, s := range []string{"0:", "1:", "2:0-1", "12:0-11", circleOfTwelve} {
		p := mustParse(t, s)
		for _, length := range append(extremes, 9, 10, 100) {
			want := length >= 0 && length <= 10
			if count, ok := impl.CountRoundWalks(p, length); ok != want || !ok && count != 0 {
				t.Error("CountRoundWalks", s, length, count, ok)
			}
			if count, ok := impl.CountWalks(p, 0, 0, length); ok != (want && p.People > 0) || !ok && count != 0 {
				t.Error("CountWalks", s, length, count, ok)
			}
		}
	}
}

func TestDistanceOf(t *testing.T) {
	for _, x := range []struct {
		party string
		a     int
		b     int
		want  int
	}{
		{"1:", 0, 0, 0},
		{"2:", 1, 1, 0},
		{"2:", 0, 1, -1},
		{"2:0-1", 1, 0, 1},
		{"3:0-2,1-2", 0, 1, 2},
		{"4:0-1,1-2,2-3", 3, 0, 3},
		{"4:0-1,2-3", 1, 2, -1},
		{"5:0-1,0-4,1-2,2-3,3-4", 1, 4, 2},
		{"12:0-11,1-10,1-11", 10, 0, 3},
		{"12:0-11,1-10,1-11", 10, 2, -1},
		{circleOfTwelve, 2, 8, 6},
		{circleOfTwelve, 2, 9, 5},
		{"12:0-1,1-2,2-3,3-4,4-5,5-6,6-7,7-8,8-9,9-10,10-11", 0, 11, 11},
		{"12:0-1,1-2,2-3,3-4,4-5,5-6,6-7,7-8,8-9,9-10,10-11", 11, 11, 0},
	} {
		far, ok := impl.DistanceOf(mustParse(t, x.party), x.a, x.b)
		wantNumber(t, "DistanceOf "+x.party, far, ok, x.want)
	}
}

// TestCommonPeopleOutside tries people who are outside, or not different.
func TestCommonPeopleOutside(t *testing.T) {
	full, _ := impl.FullParty(12)
	for _, p := range []impl.Party{{}, {People: 1}, mustParse(t, "2:0-1"), mustParse(t, "5:0-1,0-4,1-2,2-3,3-4"), full} {
		for _, a := range extremes {
			for _, b := range extremes {
				inside := a >= 0 && a < p.People && b >= 0 && b < p.People
				if common, ok := impl.CommonFriends(p, a, b); ok != (inside && a != b) || !ok && common != nil {
					t.Error("CommonFriends", p, a, b, common, ok)
				}
				if count, ok := impl.CountWalks(p, a, b, 0); ok != inside || (count == 1) != (inside && a == b) || count > 1 {
					t.Error("CountWalks", p, a, b, count, ok)
				}
				if far, ok := impl.DistanceOf(p, a, b); ok != inside || !ok && far != 0 {
					t.Error("DistanceOf", p, a, b, far, ok)
				}
			}
		}
	}
}

func TestMostPeople(t *testing.T) {
	for d, bounds := range [][]int{
		2: {1, 3, 5, 7, 9, 11},
		3: {1, 4, 10, 22, 46, 94},
		4: {1, 5, 17, 53, 161, 485},
		5: {1, 6, 26, 106, 426, 1706},
		6: {1, 7, 37, 187, 937, 4687},
	} {
		for k, want := range bounds {
			if most, ok := impl.MostPeople(d, k); !ok || most != want {
				t.Error("MostPeople", d, k, most, ok, "not", want)
			}
		}
	}
	for _, d := range append(extremes, 4, 5) {
		for _, k := range append(extremes, 4, 5) {
			most, ok := impl.MostPeople(d, k)
			if ok != (d >= 2 && d <= 6 && k >= 0 && k <= 5) || (most != 0) != ok {
				t.Error("MostPeople", d, k, most, ok)
			}
		}
	}
}

func TestCommonFailsForWrongParties(t *testing.T) {
	for _, p := range wrongParties() {
		common, ok1 := impl.CommonFriends(p, 0, 1)
		table, ok2 := impl.CommonTable(p)
		friendly, ok3 := impl.IsFriendly(p)
		windmill, ok4 := impl.IsWindmill(p)
		politician, ok5 := impl.PoliticianOf(p)
		equal, ok6 := impl.EqualNumber(p)
		strong, ok7 := impl.StrongNumbers(p)
		lines, ok8 := impl.LinesOf(p)
		walks, ok9 := impl.CountWalks(p, 0, 0, 0)
		rounds, ok10 := impl.CountRoundWalks(p, 0)
		far, ok11 := impl.DistanceOf(p, 0, 1)
		widest, ok12 := impl.WidestDistance(p)
		shortest, ok13 := impl.ShortestRound(p)
		for i, ok := range []bool{ok1, ok2, ok3, ok4, ok5, ok6, ok7, ok8, ok9, ok10, ok11, ok12, ok13} {
			if ok {
				t.Error("function", i+1, "accepts", p)
			}
		}
		if friendly || windmill || politician != 0 || equal != 0 || walks != 0 || rounds != 0 || far != 0 || widest != 0 || shortest != 0 {
			t.Error(p, "fails with", friendly, windmill, politician, equal, walks, rounds, far, widest, shortest)
		}
		if common != nil || table != nil || strong != nil || !isZeroParty(lines) {
			t.Error(p, "fails with", common, table, strong, lines)
		}
	}
}
