package tests

import (
	"math"
	"slices"
	"testing"

	"loop.example/g01257/impl"
)

func sameLists(x [][]int, y [][]int) bool {
	return slices.EqualFunc(x, y, slices.Equal[[]int])
}

func TestGroupsExample(t *testing.T) {
	p := mustParse(t, "5:0-1,0-2,1-2,2-3,3-4")
	if groups, ok := impl.AllGroups(p); !ok || !sameLists(groups, [][]int{{0, 1, 2}, {2, 3}, {3, 4}}) {
		t.Error("AllGroups", groups, ok)
	}
	if numbers, ok := impl.GroupNumbers(p); !ok || !slices.Equal(numbers, []int{1, 5, 5, 1}) {
		t.Error("GroupNumbers", numbers, ok)
	}
	if colours, ok := impl.FirstColouring(p); !ok || !slices.Equal(colours, []int{0, 1, 2, 0, 1}) {
		t.Error("FirstColouring", colours, ok)
	}
	if count, ok := impl.CountColourings(mustParse(t, "3:0-1,1-2"), 3); !ok || count != 12 {
		t.Error("CountColourings", count, ok)
	}
	turan, ok := impl.TuranParty(5, 2)
	wantParty(t, "TuranParty", turan, ok, "5:0-3,0-4,1-3,1-4,2-3,2-4")
	if most, ok := impl.MostWithout(5, 3); !ok || most != 6 {
		t.Error("MostWithout", most, ok)
	}
}

func TestGroupsConstants(t *testing.T) {
	if impl.MaxColoured != 8 || impl.MaxWays != 12 {
		t.Error("MaxColoured", impl.MaxColoured, "MaxWays", impl.MaxWays)
	}
}

// groupsTold is what chapter 4 tells of all groups of one party.
type groupsTold struct {
	party   string
	groups  [][]int
	apart   [][]int
	numbers []int
}

func TestGroupsTold(t *testing.T) {
	twelve := []int{0, 1, 2, 3, 4, 5, 6, 7, 8, 9, 10, 11}
	for _, x := range []groupsTold{
		{"0:", [][]int{{}}, [][]int{{}}, []int{1}},
		{"1:", [][]int{{0}}, [][]int{{0}}, []int{1, 1}},
		{"2:", [][]int{{0}, {1}}, [][]int{{0, 1}}, []int{1, 2}},
		{"2:0-1", [][]int{{0, 1}}, [][]int{{0}, {1}}, []int{1, 2, 1}},
		{"3:0-2", [][]int{{0, 2}, {1}}, [][]int{{0, 1}, {1, 2}}, []int{1, 3, 1}},
		{"4:0-3,1-2,1-3,2-3", [][]int{{0, 3}, {1, 2, 3}}, [][]int{{0, 1}, {0, 2}, {3}}, []int{1, 4, 4, 1}},
		{"6:0-5,1-4,2-3", [][]int{{0, 5}, {1, 4}, {2, 3}}, [][]int{{0, 1, 2}, {0, 1, 3}, {0, 2, 4}, {0, 3, 4}, {1, 2, 5}, {1, 3, 5}, {2, 4, 5}, {3, 4, 5}}, []int{1, 6, 3}},
		{"12:0-11", [][]int{{0, 11}, {1}, {2}, {3}, {4}, {5}, {6}, {7}, {8}, {9}, {10}}, [][]int{twelve[:11], twelve[1:]}, []int{1, 12, 1}},
	} {
		p := mustParse(t, x.party)
		if groups, ok := impl.AllGroups(p); !ok || !sameLists(groups, x.groups) {
			t.Error("AllGroups", x.party, groups, ok)
		}
		if apart, ok := impl.AllApart(p); !ok || !sameLists(apart, x.apart) {
			t.Error("AllApart", x.party, apart, ok)
		}
		if numbers, ok := impl.GroupNumbers(p); !ok || !slices.Equal(numbers, x.numbers) {
			t.Error("GroupNumbers", x.party, numbers, ok)
		}
	}
}

// TestGroupsOfTwelve tries the parties with the most groups: all of them, and all full ones.
func TestGroupsOfTwelve(t *testing.T) {
	full, _ := impl.FullParty(12)
	if groups, ok := impl.AllGroups(full); !ok || len(groups) != 1 || len(groups[0]) != 12 {
		t.Error("AllGroups of friends", groups, ok)
	}
	if apart, ok := impl.AllApart(full); !ok || len(apart) != 12 {
		t.Error("AllApart of friends", apart, ok)
	}
	if numbers, ok := impl.GroupNumbers(full); !ok || !slices.Equal(numbers, []int{1, 12, 66, 220, 495, 792, 924, 792, 495, 220, 66, 12, 1}) {
		t.Error("GroupNumbers of friends", numbers, ok)
	}
	for a := range 12 {
		if count, ok := impl.GroupsAt(full, a); !ok || count != 2048 {
			t.Error("GroupsAt of friends", a, count, ok)
		}
	}
	threes, ok := impl.PartsParty([]int{3, 3, 3, 3})
	if groups, fine := impl.AllGroups(threes); !ok || !fine || len(groups) != 81 || !slices.Equal(groups[80], []int{2, 5, 8, 11}) {
		t.Error("AllGroups of threes", groups, fine)
	}
	if numbers, ok := impl.GroupNumbers(threes); !ok || !slices.Equal(numbers, []int{1, 12, 54, 108, 81}) {
		t.Error("GroupNumbers of threes", numbers, ok)
	}
}

func TestGroupsAtPeopleOutside(t *testing.T) {
	for _, p := range []impl.Party{{}, {People: 1}, mustParse(t, "3:0-1,0-2,1-2"), mustParse(t, "12:0-11")} {
		for _, a := range extremes {
			count, ok := impl.GroupsAt(p, a)
			if inside := a >= 0 && a < p.People; ok != inside || (count > 0) != inside {
				t.Error("GroupsAt", p, a, count, ok)
			}
		}
	}
}

func TestGrowGroup(t *testing.T) {
	p := mustParse(t, "5:0-1,0-2,1-2,2-3,3-4")
	for _, x := range []struct {
		people []int
		grown  []int
	}{
		{nil, []int{0, 1, 2}},
		{[]int{}, []int{0, 1, 2}},
		{[]int{2}, []int{0, 1, 2}},
		{[]int{3}, []int{2, 3}},
		{[]int{4}, []int{3, 4}},
		{[]int{1, 2}, []int{0, 1, 2}},
		{[]int{2, 3}, []int{2, 3}},
		{[]int{0, 1, 2}, []int{0, 1, 2}},
	} {
		if grown, ok := impl.GrowGroup(p, x.people); !ok || !slices.Equal(grown, x.grown) {
			t.Error("GrowGroup", x.people, grown, ok, "not", x.grown)
		}
	}
	if grown, ok := impl.GrowGroup(impl.Party{}, nil); !ok || len(grown) != 0 {
		t.Error("GrowGroup of nobody", grown, ok)
	}
	for _, people := range [][]int{
		{0, 3}, {1, 0}, {2, 1, 0}, {0, 0}, {0, 1, 1}, {5}, {-1}, {-1, 0}, {4, 5}, {0, 1, 2, 3}, {0, 1, 2, 3, 4, 5}, {math.MinInt}, {math.MaxInt}, {0, math.MaxInt}, make([]int, 1000),
	} {
		if grown, ok := impl.GrowGroup(p, people); ok || grown != nil {
			t.Error("GrowGroup", people, grown, ok)
		}
	}
}

// TestIsColouringOfAnyLists tries lists that are no colours, or friends of one colour: they are no colourings, but the call does not fail.
func TestIsColouringOfAnyLists(t *testing.T) {
	p := mustParse(t, "3:0-1,1-2")
	for _, colours := range [][]int{{0, 1, 0}, {1, 0, 1}, {0, 1, 2}, {11, 0, 11}, {11, 10, 9}, {5, 11, 5}} {
		if is, ok := impl.IsColouring(p, colours); !ok || !is {
			t.Error("IsColouring", colours, is, ok)
		}
	}
	for _, colours := range [][]int{
		{0, 0, 0}, {0, 0, 1}, {1, 0, 0}, {11, 11, 11}, nil, {}, {0}, {0, 1}, {0, 1, 0, 1}, {12, 0, 1}, {0, 12, 0}, {0, 1, 12}, {-1, 0, 1}, {0, -1, 0}, {0, 1, -1},
		{math.MinInt, 0, 1}, {0, math.MaxInt, 0}, {math.MinInt, math.MaxInt, math.MinInt}, make([]int, 1000),
	} {
		if is, ok := impl.IsColouring(p, colours); !ok || is {
			t.Error("IsColouring", colours, is, ok)
		}
	}
	for _, colours := range [][]int{nil, {}} {
		if is, ok := impl.IsColouring(impl.Party{}, colours); !ok || !is {
			t.Error("IsColouring of nobody", is, ok)
		}
	}
	if is, ok := impl.IsColouring(impl.Party{}, []int{0}); !ok || is {
		t.Error("IsColouring of nobody", is, ok)
	}
	full, _ := impl.FullParty(12)
	if is, ok := impl.IsColouring(full, []int{11, 10, 9, 8, 7, 6, 5, 4, 3, 2, 1, 0}); !ok || !is {
		t.Error("IsColouring of twelve friends", is, ok)
	}
	if is, ok := impl.IsColouring(full, []int{11, 10, 9, 8, 7, 6, 5, 4, 3, 2, 1, 11}); !ok || is {
		t.Error("IsColouring of twelve friends", is, ok)
	}
	if is, ok := impl.IsColouring(impl.Party{People: 12}, repeated(12, 11)); !ok || !is {
		t.Error("IsColouring of twelve strangers", is, ok)
	}
}

func TestGreedyColouring(t *testing.T) {
	// In a bad order a line of four needs three colours, and parties in which only couples, and all odd ones, and all even ones, are strangers need one for each couple.
	for _, x := range []struct {
		party   string
		order   []int
		colours []int
	}{
		{"0:", nil, nil},
		{"1:", []int{0}, []int{0}},
		{"4:0-1,1-2,2-3", []int{0, 1, 2, 3}, []int{0, 1, 0, 1}},
		{"4:0-1,1-2,2-3", []int{0, 3, 1, 2}, []int{0, 1, 2, 0}},
		{"4:0-1,1-2,2-3", []int{3, 0, 2, 1}, []int{0, 2, 1, 0}},
		{"6:0-3,0-5,1-2,1-4,2-5,3-4", []int{0, 1, 2, 3, 4, 5}, []int{0, 0, 1, 1, 2, 2}},
		{"6:0-3,0-5,1-2,1-4,2-5,3-4", []int{0, 2, 4, 1, 3, 5}, []int{0, 1, 0, 1, 0, 1}},
		{"8:0-3,0-5,0-7,1-2,1-4,1-6,2-5,2-7,3-4,3-6,4-7,5-6", []int{0, 1, 2, 3, 4, 5, 6, 7}, []int{0, 0, 1, 1, 2, 2, 3, 3}},
	} {
		if colours, ok := impl.GreedyColouring(mustParse(t, x.party), x.order); !ok || !slices.Equal(colours, x.colours) {
			t.Error("GreedyColouring", x.party, x.order, colours, ok, "not", x.colours)
		}
	}
	full, _ := impl.FullParty(12)
	if colours, ok := impl.GreedyColouring(full, []int{11, 10, 9, 8, 7, 6, 5, 4, 3, 2, 1, 0}); !ok || !slices.Equal(colours, []int{11, 10, 9, 8, 7, 6, 5, 4, 3, 2, 1, 0}) {
		t.Error("GreedyColouring of twelve friends", colours, ok)
	}
}

func TestGreedyColouringFailsForWrongOrders(t *testing.T) {
	p := mustParse(t, "3:0-1,1-2")
	for _, order := range [][]int{
		nil, {}, {0}, {0, 1}, {0, 1, 1}, {0, 0, 2}, {2, 1, 2}, {0, 1, 2, 2}, {0, 1, 2, 3}, {0, 1, 3}, {1, 2, 3}, {-1, 0, 1}, {0, 1, -1},
		{math.MinInt, 0, 1}, {0, 1, math.MaxInt}, {math.MinInt, math.MaxInt, 0}, make([]int, 1000),
	} {
		if colours, ok := impl.GreedyColouring(p, order); ok || colours != nil {
			t.Error("GreedyColouring", order, colours, ok)
		}
	}
	if colours, ok := impl.GreedyColouring(impl.Party{}, []int{0}); ok || colours != nil {
		t.Error("GreedyColouring of nobody", colours, ok)
	}
}

// coloursTold is what chapter 4 tells of one party's colours and groups.
type coloursTold struct {
	party  string
	first  []int
	fewest int
	groups [][]int
}

func TestColoursTold(t *testing.T) {
	eight := []int{0, 1, 2, 3, 4, 5, 6, 7}
	singles := [][]int{{0}, {1}, {2}, {3}, {4}, {5}, {6}, {7}}
	for _, x := range []coloursTold{
		{"0:", nil, 0, nil},
		{"1:", []int{0}, 1, [][]int{{0}}},
		{"2:", []int{0, 0}, 1, [][]int{{0}, {1}}},
		{"2:0-1", []int{0, 1}, 2, [][]int{{0, 1}}},
		{"3:1-2", []int{0, 0, 1}, 2, [][]int{{0}, {1, 2}}},
		{"3:0-2", []int{0, 0, 1}, 2, [][]int{{0, 2}, {1}}},
		{"4:0-3,1-2,1-3", []int{0, 0, 1, 1}, 2, [][]int{{0, 3}, {1, 2}}},
		// Who takes the least free colour in the order of people would need three here.
		{"4:0-2,1-3,2-3", []int{0, 1, 1, 0}, 2, [][]int{{0, 2}, {1, 3}}},
		{"5:0-1,0-4,1-2,2-3,3-4", []int{0, 1, 0, 1, 2}, 3, [][]int{{0, 1}, {2, 3}, {4}}},
		{"8:", repeated(8, 0), 1, singles},
		{"8:0-4,0-5,0-6,0-7,1-4,1-5,1-6,1-7,2-4,2-5,2-6,2-7,3-4,3-5,3-6,3-7", []int{0, 0, 0, 0, 1, 1, 1, 1}, 2, [][]int{{0, 4}, {1, 5}, {2, 6}, {3, 7}}},
	} {
		p := mustParse(t, x.party)
		if fewest, ok := impl.FewestColours(p); !ok || fewest != x.fewest {
			t.Error("FewestColours", x.party, fewest, ok)
		}
		if first, ok := impl.FirstColouring(p); !ok || !slices.Equal(first, x.first) {
			t.Error("FirstColouring", x.party, first, ok)
		}
		if fewest, ok := impl.FewestGroups(p); !ok || fewest != len(x.groups) {
			t.Error("FewestGroups", x.party, fewest, ok)
		}
		if groups, ok := impl.GroupsOfParty(p); !ok || !sameLists(groups, x.groups) {
			t.Error("GroupsOfParty", x.party, groups, ok)
		}
	}
	full, _ := impl.FullParty(8)
	if fewest, ok := impl.FewestColours(full); !ok || fewest != 8 {
		t.Error("FewestColours of eight friends", fewest, ok)
	}
	if first, ok := impl.FirstColouring(full); !ok || !slices.Equal(first, eight) {
		t.Error("FirstColouring of eight friends", first, ok)
	}
	if groups, ok := impl.GroupsOfParty(full); !ok || !sameLists(groups, [][]int{eight}) {
		t.Error("GroupsOfParty of eight friends", groups, ok)
	}
}

// TestCountColouringsByFormulas counts the colourings of parties whose numbers are known: of strangers, of friends, of lines and rounds.
func TestCountColouringsByFormulas(t *testing.T) {
	for n := 0; n <= impl.MaxColoured; n++ {
		empty, _ := impl.EmptyParty(n)
		full, _ := impl.FullParty(n)
		line := impl.Party{People: n}
		for a := range max(n-1, 0) {
			line.Pairs = append(line.Pairs, impl.Pair{A: a, B: a + 1})
		}
		round, isRound := impl.AddPair(line, 0, n-1)
		for k := 0; k <= impl.MaxWays; k++ {
			free, different, along, sign := 1, 1, 1, 1
			for a := range n {
				free *= k
				different *= k - a
				along *= k - min(a, 1)
				sign = -sign
			}
			if count, ok := impl.CountColourings(empty, k); !ok || count != free {
				t.Error("CountColourings of strangers", n, k, count, ok, "not", free)
			}
			if count, ok := impl.CountColourings(full, k); !ok || count != max(different, 0) {
				t.Error("CountColourings of friends", n, k, count, ok, "not", different)
			}
			if count, ok := impl.CountColourings(line, k); !ok || count != along {
				t.Error("CountColourings of a line", n, k, count, ok, "not", along)
			}
			if !isRound || k == 0 {
				continue
			}
			around := sign * (k - 1)
			power := 1
			for range n {
				power *= k - 1
			}
			if count, ok := impl.CountColourings(round, k); !ok || count != power+around {
				t.Error("CountColourings of a round", n, k, count, ok, "not", power+around)
			}
		}
	}
}

func TestCountColouringsFailsForWrongNumbers(t *testing.T) {
	for _, p := range []impl.Party{{}, {People: 1}, mustParse(t, "3:0-1,1-2"), {People: 8}} {
		for _, colours := range extremes {
			count, ok := impl.CountColourings(p, colours)
			if ok != (colours >= 0 && colours <= impl.MaxWays) || !ok && count != 0 {
				t.Error("CountColourings", p, colours, count, ok)
			}
		}
	}
}

// TestColoursOfTooManyPeople tries one person more than the most, and the greatest parties.
func TestColoursOfTooManyPeople(t *testing.T) {
	for n := impl.MaxColoured + 1; n <= impl.MaxPeople; n++ {
		empty, _ := impl.EmptyParty(n)
		full, _ := impl.FullParty(n)
		for _, p := range []impl.Party{empty, full} {
			fewest, ok1 := impl.FewestColours(p)
			first, ok2 := impl.FirstColouring(p)
			count, ok3 := impl.CountColourings(p, 1)
			groups, ok4 := impl.FewestGroups(p)
			lists, ok5 := impl.GroupsOfParty(p)
			if ok1 || ok2 || ok3 || ok4 || ok5 || fewest != 0 || first != nil || count != 0 || groups != 0 || lists != nil {
				t.Error(n, fewest, ok1, first, ok2, count, ok3, groups, ok4, lists, ok5)
			}
		}
	}
}

func TestPartsParty(t *testing.T) {
	for _, x := range []struct {
		sizes []int
		party string
	}{
		{[]int{1}, "1:"},
		{[]int{12}, "12:"},
		{[]int{1, 1}, "2:0-1"},
		{[]int{1, 2}, "3:0-1,0-2"},
		{[]int{2, 1}, "3:0-2,1-2"},
		{[]int{1, 2, 1}, "4:0-1,0-2,0-3,1-3,2-3"},
		{[]int{1, 11}, "12:0-1,0-2,0-3,0-4,0-5,0-6,0-7,0-8,0-9,0-10,0-11"},
	} {
		p, ok := impl.PartsParty(x.sizes)
		wantParty(t, "PartsParty", p, ok, x.party)
	}
	full, _ := impl.FullParty(12)
	if p, ok := impl.PartsParty(repeated(12, 1)); !ok || !sameParty(p, full) {
		t.Error("PartsParty of twelve parts", p, ok)
	}
	for _, sizes := range [][]int{
		nil, {}, {0}, {-1}, {13}, {1, 0}, {0, 1}, {1, -1, 3}, {13, -1}, {12, 1}, {6, 7}, {6, 6, 1}, repeated(13, 1), repeated(13, 0), repeated(100, 1),
		{math.MinInt}, {math.MaxInt}, {1, math.MaxInt}, {math.MaxInt, math.MaxInt, 3}, {math.MinInt, math.MinInt, 1}, {math.MaxInt, 1}, {1, math.MinInt},
	} {
		if p, ok := impl.PartsParty(sizes); ok || !isZeroParty(p) {
			t.Error("PartsParty", sizes, p, ok)
		}
	}
}

func TestTuranParty(t *testing.T) {
	for _, x := range []struct {
		n     int
		parts int
		party string
	}{
		{1, 1, "1:"},
		{2, 1, "2:"},
		{2, 2, "2:0-1"},
		{3, 2, "3:0-2,1-2"},
		{4, 3, "4:0-2,0-3,1-2,1-3,2-3"},
		{7, 3, "7:0-3,0-4,0-5,0-6,1-3,1-4,1-5,1-6,2-3,2-4,2-5,2-6,3-5,3-6,4-5,4-6"},
		{12, 1, "12:"},
	} {
		p, ok := impl.TuranParty(x.n, x.parts)
		wantParty(t, "TuranParty", p, ok, x.party)
	}
	for _, n := range extremes {
		for _, parts := range extremes {
			p, ok := impl.TuranParty(n, parts)
			if want := n >= 1 && n <= impl.MaxPeople && parts >= 1 && parts <= n; ok != want || !ok && !isZeroParty(p) {
				t.Error("TuranParty", n, parts, p, ok)
			}
		}
	}
}

func TestMostWithout(t *testing.T) {
	most := [][]int{
		1:  {0},
		2:  {0, 1},
		3:  {0, 2, 3},
		4:  {0, 4, 5, 6},
		5:  {0, 6, 8, 9, 10},
		6:  {0, 9, 12, 13, 14, 15},
		7:  {0, 12, 16, 18, 19, 20, 21},
		8:  {0, 16, 21, 24, 25, 26, 27, 28},
		12: {0, 36, 48, 54, 57, 60, 61, 62, 63, 64, 65, 66},
	}
	for n, list := range most {
		for i, want := range list {
			if count, ok := impl.MostWithout(n, i+2); !ok || count != want {
				t.Error("MostWithout", n, i+2, count, ok, "not", want)
			}
		}
	}
	for _, n := range extremes {
		for _, size := range extremes {
			count, ok := impl.MostWithout(n, size)
			if want := n >= 1 && n <= impl.MaxPeople && size >= 2 && size <= n+1; ok != want || !ok && count != 0 {
				t.Error("MostWithout", n, size, count, ok)
			}
		}
	}
}

func TestLacksGroup(t *testing.T) {
	p := mustParse(t, "5:0-1,0-2,1-2,2-3,3-4")
	for size := 1; size <= impl.MaxPeople; size++ {
		if lacks, ok := impl.LacksGroup(p, size); !ok || lacks != (size > 3) {
			t.Error("LacksGroup", size, lacks, ok)
		}
		if lacks, ok := impl.LacksGroup(impl.Party{}, size); !ok || !lacks {
			t.Error("LacksGroup of nobody", size, lacks, ok)
		}
	}
	full, _ := impl.FullParty(12)
	if lacks, ok := impl.LacksGroup(full, 12); !ok || lacks {
		t.Error("LacksGroup of twelve friends", lacks, ok)
	}
	for _, p := range []impl.Party{{}, {People: 1}, p, full} {
		for _, size := range extremes {
			lacks, ok := impl.LacksGroup(p, size)
			if ok != (size >= 1 && size <= impl.MaxPeople) || !ok && lacks {
				t.Error("LacksGroup", p, size, lacks, ok)
			}
		}
	}
}

func TestGroupsFailForWrongParties(t *testing.T) {
	for _, p := range wrongParties() {
		people := max(min(p.People, 12), 0)
		order := allChoices(people)[1<<people-1]
		all, ok1 := impl.AllGroups(p)
		apart, ok2 := impl.AllApart(p)
		numbers, ok3 := impl.GroupNumbers(p)
		at, ok4 := impl.GroupsAt(p, 0)
		grown, ok5 := impl.GrowGroup(p, nil)
		is, ok6 := impl.IsColouring(p, order)
		greedy, ok7 := impl.GreedyColouring(p, order)
		fewest, ok8 := impl.FewestColours(p)
		first, ok9 := impl.FirstColouring(p)
		count, ok10 := impl.CountColourings(p, 3)
		fewestGroups, ok11 := impl.FewestGroups(p)
		groups, ok12 := impl.GroupsOfParty(p)
		lacks, ok13 := impl.LacksGroup(p, 12)
		for i, ok := range []bool{ok1, ok2, ok3, ok4, ok5, ok6, ok7, ok8, ok9, ok10, ok11, ok12, ok13} {
			if ok {
				t.Error("function", i+1, "accepts", p)
			}
		}
		if at != 0 || is || fewest != 0 || count != 0 || fewestGroups != 0 || lacks {
			t.Error(p, "fails with", at, is, fewest, count, fewestGroups, lacks)
		}
		if all != nil || apart != nil || numbers != nil || grown != nil || greedy != nil || first != nil || groups != nil {
			t.Error(p, "fails with", all, apart, numbers, grown, greedy, first, groups)
		}
	}
}
