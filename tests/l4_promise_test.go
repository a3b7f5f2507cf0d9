package tests

import (
	"math"
	"reflect"
	"slices"
	"testing"

	"loop.example/g01257/impl"
)

// fullOf returns those of all groups of n people that are no part of a greater one.
func fullOf(groups [][]int, table friendTable, n int, friends bool) [][]int {
	full := [][]int{}
	for _, group := range groups {
		joined := false
		for a := range n {
			if !slices.Contains(group, a) && areTied(table, append(slices.Clone(group), a), friends) {
				joined = true
			}
		}
		if !joined {
			full = append(full, group)
		}
	}
	return full
}

// grownStepByStep adds each person to a group who is a friend of all in it.
func grownStepByStep(table friendTable, n int, group []int) []int {
	group = slices.Clone(group)
	for a := range n {
		if !slices.Contains(group, a) && areTied(table, append(slices.Clone(group), a), true) {
			group = append(group, a)
		}
	}
	slices.Sort(group)
	return group
}

// checkFullGroups holds what chapter 4 tells of a party's groups against all lists of people.
func checkFullGroups(t *testing.T, p impl.Party) {
	t.Helper()
	table := tableOf(p)
	groups, apart := tiedLists(p, true), tiedLists(p, false)
	full := fullOf(groups, table, p.People, true)
	if list, ok := impl.AllGroups(p); !ok || !sameLists(list, full) {
		t.Error("AllGroups", p, list, ok, "not", full)
	}
	want := fullOf(apart, table, p.People, false)
	if list, ok := impl.AllApart(p); !ok || !sameLists(list, want) {
		t.Error("AllApart", p, list, ok, "not", want)
	}
	numbers := make([]int, len(longest(groups))+1)
	for _, group := range groups {
		numbers[len(group)]++
	}
	if list, ok := impl.GroupNumbers(p); !ok || !slices.Equal(list, numbers) {
		t.Error("GroupNumbers", p, list, ok, "not", numbers)
	}
	for size := 1; size <= impl.MaxPeople; size++ {
		if lacks, ok := impl.LacksGroup(p, size); !ok || lacks != (size >= len(numbers)) {
			t.Error("LacksGroup", p, size, lacks, ok)
		}
	}
	for a := range p.People {
		with := 0
		for _, group := range groups {
			if slices.Contains(group, a) {
				with++
			}
		}
		if count, ok := impl.GroupsAt(p, a); !ok || count != with {
			t.Error("GroupsAt", p, a, count, ok, "not", with)
		}
	}
	for _, group := range groups {
		want := grownStepByStep(table, p.People, group)
		if grown, ok := impl.GrowGroup(p, group); !ok || !slices.Equal(grown, want) {
			t.Error("GrowGroup", p, group, grown, ok, "not", want)
		}
	}
}

// TestFullGroupsOfAllParties is the first half of promise 4: full groups are groups that nobody joins, and all of them are told.
func TestFullGroupsOfAllParties(t *testing.T) {
	parties := append(someParties(), smallParties(5)...)
	parties = append(parties, mixedParties(8, 30)...)
	for _, p := range append(parties, mixedParties(12, 5)...) {
		checkFullGroups(t, p)
	}
}

// isColouredByTable reports whether no two friends have one colour.
func isColouredByTable(table friendTable, colours []int) bool {
	for a, x := range colours {
		for b, y := range colours[:a] {
			if table[a][b] && x == y {
				return false
			}
		}
	}
	return true
}

// colouringsOf returns all colourings with colours less than a number, in order.
func colouringsOf(p impl.Party, colours int) [][]int {
	table := tableOf(p)
	var list [][]int
	for _, x := range allLists(p.People, 0, colours-1) {
		if isColouredByTable(table, x) {
			list = append(list, x)
		}
	}
	slices.SortFunc(list, slices.Compare[[]int])
	return list
}

// checkColours holds what is told of a party's colours against all lists of at most so many colours, in which there are enough of them.
func checkColours(t *testing.T, p impl.Party, most int) {
	t.Helper()
	fewest, ok := impl.FewestColours(p)
	if !ok || fewest < 0 || fewest > p.People {
		t.Error("FewestColours", p, fewest, ok)
	}
	for k := 0; k <= most; k++ {
		all := colouringsOf(p, k)
		if count, ok := impl.CountColourings(p, k); !ok || count != len(all) {
			t.Error("CountColourings", p, k, count, ok, "not", len(all))
		}
		if (len(all) > 0) != (k >= fewest) {
			t.Error("FewestColours", p, fewest, "but", len(all), "colourings with", k)
		}
		if first, ok := impl.FirstColouring(p); k == fewest && (!ok || !slices.Equal(first, all[0])) {
			t.Error("FirstColouring", p, first, ok, "not", all[0])
		}
	}
}

// TestColoursOfAllParties is the other half of promise 4: no fewer colours do.
func TestColoursOfAllParties(t *testing.T) {
	for _, p := range smallParties(4) {
		checkColours(t, p, 7)
	}
	for _, p := range allParties(5) {
		checkColours(t, p, 4)
	}
	for _, p := range mixedParties(7, 20) {
		checkColours(t, p, 4)
	}
	for _, p := range mixedParties(8, 10) {
		checkColours(t, p, 3)
	}
}

// checkFirstColouring holds the first colouring of a party of any number of people against the fewest colours: it is one, each colour comes after the lesser ones, and one fewer has no way.
func checkFirstColouring(t *testing.T, p impl.Party) {
	t.Helper()
	fewest, ok1 := impl.FewestColours(p)
	first, ok2 := impl.FirstColouring(p)
	is, ok3 := impl.IsColouring(p, first)
	if !ok1 || !ok2 || !ok3 || !is || !isColouredByTable(tableOf(p), first) {
		t.Error("FirstColouring", p, first, ok2, is, ok3)
	}
	next := 0
	for _, colour := range first {
		if colour > next {
			t.Error("FirstColouring", p, first)
		}
		next = max(next, colour+1)
	}
	if next != fewest {
		t.Error("FirstColouring", p, first, "FewestColours", fewest)
	}
	if ways, ok := impl.CountColourings(p, fewest); !ok || ways == 0 {
		t.Error("CountColourings", p, fewest, ways, ok)
	}
	if ways, ok := impl.CountColourings(p, max(fewest-1, 0)); !ok || p.People > 0 && ways != 0 {
		t.Error("CountColourings", p, fewest-1, ways, ok)
	}
	if greatest, _ := impl.GreatestGroup(p); len(greatest) > fewest {
		t.Error("FewestColours", p, fewest, "but", greatest, "are friends")
	}
}

// checkSplit holds the groups of a party against the colours of the OtherParty.
func checkSplit(t *testing.T, p impl.Party) {
	t.Helper()
	other, _ := impl.OtherParty(p)
	first, ok1 := impl.FirstColouring(other)
	fewest, ok2 := impl.FewestGroups(p)
	groups, ok3 := impl.GroupsOfParty(p)
	if !ok1 || !ok2 || !ok3 || len(groups) != fewest {
		t.Error("FewestGroups", p, fewest, ok2, "GroupsOfParty", groups, ok3)
	}
	if want, _ := impl.FewestColours(other); fewest != want {
		t.Error("FewestGroups", p, fewest, "not", want)
	}
	seen := 0
	for i, group := range groups {
		if is, ok := impl.IsGroup(p, group); !ok || !is || len(group) == 0 {
			t.Error("GroupsOfParty", p, groups)
			continue
		}
		if i > 0 && groups[i-1][0] >= group[0] {
			t.Error("GroupsOfParty", p, groups, "in no order")
		}
		for _, a := range group {
			if first[a] != first[group[0]] {
				t.Error("GroupsOfParty", p, groups, "but", first)
			}
			seen |= 1 << a
		}
	}
	if seen != 1<<p.People-1 {
		t.Error("GroupsOfParty", p, groups, "lacks people")
	}
}

func TestFirstColouringsAndSplits(t *testing.T) {
	parties := append(smallParties(5), mixedParties(6, 100)...)
	parties = append(parties, mixedParties(7, 100)...)
	for _, p := range append(parties, mixedParties(8, 100)...) {
		checkFirstColouring(t, p)
		checkSplit(t, p)
	}
}

// greedyStepByStep gives colours to people in an order, -1 standing for none.
func greedyStepByStep(table friendTable, order []int) []int {
	colours := repeated(len(order), -1)
	for _, a := range order {
		colour := 0
		for isTaken := true; isTaken; {
			isTaken = false
			for b, x := range colours {
				if table[a][b] && x == colour {
					isTaken = true
				}
			}
			if isTaken {
				colour++
			}
		}
		colours[a] = colour
	}
	return colours
}

func checkGreedy(t *testing.T, p impl.Party, order []int) int {
	t.Helper()
	want := greedyStepByStep(tableOf(p), order)
	colours, ok := impl.GreedyColouring(p, order)
	if is, fine := impl.IsColouring(p, colours); !ok || !fine || !is || !slices.Equal(colours, want) {
		t.Error("GreedyColouring", p, order, colours, ok, "not", want)
	}
	if p.People == 0 {
		return 0
	}
	return slices.Max(colours) + 1
}

// TestGreedyColouringOfAllOrders tries all orders of few people: some of them needs the fewest colours only.
func TestGreedyColouringOfAllOrders(t *testing.T) {
	for _, p := range smallParties(4) {
		least := math.MaxInt
		for _, order := range allOrders(p.People) {
			least = min(least, checkGreedy(t, p, order))
		}
		if fewest, ok := impl.FewestColours(p); !ok || fewest != least {
			t.Error("FewestColours", p, fewest, ok, "not", least)
		}
	}
	orders := allOrders(7)
	for i, p := range mixedParties(12, 100) {
		order := []int{11, 9, 7, 10, 8}
		for _, a := range orders[i*50] {
			order = append(order, a)
		}
		checkGreedy(t, p, order)
	}
}

// TestIsColouringOfAllLists tries all lists of few people's colours, and numbers that are none.
func TestIsColouringOfAllLists(t *testing.T) {
	for _, p := range smallParties(3) {
		table := tableOf(p)
		for size := range 5 {
			for _, list := range allLists(size, -1, 2) {
				want := size == p.People && !slices.Contains(list, -1) && isColouredByTable(table, list)
				if is, ok := impl.IsColouring(p, list); !ok || is != want {
					t.Error("IsColouring", p, list, is, ok)
				}
			}
		}
	}
}

// TestPartsOfAllSizes holds PartsParty against a table, for all lists of sizes of few people.
func TestPartsOfAllSizes(t *testing.T) {
	for parts := range 5 {
		for _, sizes := range allLists(parts, 0, 5) {
			var places []int
			for i, size := range sizes {
				places = append(places, repeated(size, i)...)
			}
			p, ok := impl.PartsParty(sizes)
			if want := parts > 0 && !slices.Contains(sizes, 0) && len(places) <= impl.MaxPeople; ok != want {
				t.Error("PartsParty", sizes, p, ok)
			}
			if !ok {
				continue
			}
			var table friendTable
			for a, x := range places {
				for b, y := range places {
					table[a][b] = x != y
				}
			}
			if !sameParty(p, partyOfTable(len(places), table)) {
				t.Error("PartsParty", sizes, p)
			}
		}
	}
}

// TestMostWithoutOfAllParties looks for the most pairs without a group among all parties of few people.
func TestMostWithoutOfAllParties(t *testing.T) {
	for n := 1; n <= 6; n++ {
		most := make([]int, n+2)
		for _, p := range allParties(n) {
			for size := 2; size <= n+1; size++ {
				if lacks, ok := impl.LacksGroup(p, size); ok && lacks {
					most[size] = max(most[size], len(p.Pairs))
				}
			}
		}
		for size := 2; size <= n+1; size++ {
			if told, ok := impl.MostWithout(n, size); !ok || told != most[size] {
				t.Error("MostWithout", n, size, told, ok, "not", most[size])
			}
		}
	}
}

// TestTuranPartiesLackGroups holds all TuranParties against the sizes of their parts, the groups that they lack, and the most pairs.
func TestTuranPartiesLackGroups(t *testing.T) {
	for n := 1; n <= impl.MaxPeople; n++ {
		for parts := 1; parts <= n; parts++ {
			p, ok := impl.TuranParty(n, parts)
			if !ok || !impl.IsParty(p) || p.People != n {
				t.Error("TuranParty", n, parts, p, ok)
			}
			apart, _ := impl.AllApart(p)
			greater := n % parts
			for i, part := range apart {
				want := n / parts
				if i < greater {
					want++
				}
				if len(apart) != parts || len(part) != want || part[want-1]-part[0] != want-1 {
					t.Error("TuranParty", n, parts, p, "has the parts", apart)
				}
			}
			if has, ok := impl.LacksGroup(p, parts); !ok || has {
				t.Error("LacksGroup", p, parts, has, ok)
			}
			if lacks, ok := impl.LacksGroup(p, parts+1); parts < impl.MaxPeople && (!ok || !lacks) {
				t.Error("LacksGroup", p, parts+1, lacks, ok)
			}
			if most, ok := impl.MostWithout(n, parts+1); !ok || most != len(p.Pairs) {
				t.Error("MostWithout", n, parts+1, most, ok, "not", len(p.Pairs))
			}
		}
	}
}

// groupsValues returns the values with which the functions of chapter 4 are tried: right ones and others.
func groupsValues(t *testing.T) map[reflect.Type][]reflect.Value {
	values := map[reflect.Type][]reflect.Value{}
	for _, s := range []string{"0:", "1:", "2:0-1", "3:0-1,1-2", "5:0-1,0-2,1-2,2-3,3-4", "8:0-7,1-6,2-5,3-4", "9:0-8", "12:", "12:0-11,1-10,2-9"} {
		addValues(values, mustParse(t, s))
	}
	for _, n := range []int{8, 12} {
		full, _ := impl.FullParty(n)
		addValues(values, full)
	}
	addValues(values, mixedParties(12, 2)...)
	addValues(values, wrongParties()...)
	addValues(values, math.MinInt, -1, 0, 1, 2, 3, 4, 8, 11, 12, 13, math.MaxInt)
	addValues(values, nil, []int{}, []int{0}, []int{0, 1}, []int{1, 0}, []int{0, 0}, []int{0, 1, 0}, []int{0, 1, 2}, []int{2, 0, 1}, []int{3, 4}, []int{0, 1, 2, 0, 1}, []int{4, 3, 2, 1, 0}, []int{11}, []int{12}, []int{13}, []int{0, 11}, []int{-1, 0}, []int{11, 10, 9, 8, 7, 6, 5, 4, 3, 2, 1, 0}, []int{math.MinInt, math.MaxInt}, repeated(12, 1), repeated(100, 1))
	return values
}

func TestGroupsCallsKeepTheirArguments(t *testing.T) {
	values := groupsValues(t)
	for _, f := range []struct {
		name string
		call any
	}{
		{"AllGroups", impl.AllGroups},
		{"AllApart", impl.AllApart},
		{"GroupNumbers", impl.GroupNumbers},
		{"GroupsAt", impl.GroupsAt},
		{"GrowGroup", impl.GrowGroup},
		{"IsColouring", impl.IsColouring},
		{"GreedyColouring", impl.GreedyColouring},
		{"FewestColours", impl.FewestColours},
		{"FirstColouring", impl.FirstColouring},
		{"CountColourings", impl.CountColourings},
		{"FewestGroups", impl.FewestGroups},
		{"GroupsOfParty", impl.GroupsOfParty},
		{"PartsParty", impl.PartsParty},
		{"TuranParty", impl.TuranParty},
		{"MostWithout", impl.MostWithout},
		{"LacksGroup", impl.LacksGroup},
	} {
		sweep(t, f.name, f.call, values)
	}
}
