package tests

import (
	"math"
	"reflect"
	"slices"
	"testing"

	"loop.example/g01257/impl"
)

// areTied reports whether all people of a list are friends, or strangers, two and two.
func areTied(table friendTable, list []int, friends bool) bool {
	for i, a := range list {
		for _, b := range list[:i] {
			if table[a][b] != friends {
				return false
			}
		}
	}
	return true
}

// tiedLists returns all increasing lists of people who are friends, or strangers, two and two, in order.
func tiedLists(p impl.Party, friends bool) [][]int {
	table := tableOf(p)
	var lists [][]int
	for _, list := range allChoices(p.People) {
		if areTied(table, list, friends) {
			lists = append(lists, list)
		}
	}
	slices.SortFunc(lists, slices.Compare[[]int])
	return lists
}

// ofSize returns those of some lists that have a size.
func ofSize(lists [][]int, size int) [][]int {
	var some [][]int
	for _, list := range lists {
		if len(list) == size {
			some = append(some, list)
		}
	}
	return some
}

// longest returns the first one of the longest lists.
func longest(lists [][]int) []int {
	return slices.MaxFunc(lists, func(x []int, y []int) int { return len(x) - len(y) })
}

// checkThrees holds what is counted of a party's threes against these themselves, and against each other.
func checkThrees(t *testing.T, p impl.Party) {
	t.Helper()
	table := tableOf(p)
	var byPairs [4]int
	var all [][]int
	for _, list := range ofSize(allChoices(p.People), 3) {
		pairs := 0
		for i, a := range list {
			if table[a][list[(i+1)%3]] {
				pairs++
			}
		}
		byPairs[pairs]++
		if pairs == 3 {
			all = append(all, list)
		}
	}
	slices.SortFunc(all, slices.Compare[[]int])
	friends, strangers, mixed, ok := impl.CountThrees(p)
	if !ok || friends != byPairs[3] || strangers != byPairs[0] || mixed != byPairs[1]+byPairs[2] {
		t.Error("CountThrees", p, friends, strangers, mixed, ok, "not", byPairs)
	}
	if threes, ok := impl.FriendThrees(p); !ok || !slices.EqualFunc(threes, all, slices.Equal[[]int]) {
		t.Error("FriendThrees", p, threes, ok, "not", all)
	}
	kind, ok := impl.CountByNumbers(p)
	least, fine := impl.LeastOneKind(p.People)
	if !ok || !fine || kind != byPairs[0]+byPairs[3] || kind < least {
		t.Error("CountByNumbers", p, kind, ok, "not", byPairs, "LeastOneKind", least, fine)
	}
	if forks, ok := impl.CountForks(p); !ok || forks != 3*byPairs[3]+byPairs[2] {
		t.Error("CountForks", p, forks, ok, "not", byPairs)
	}
	for a := range p.People {
		want := 0
		for _, three := range all {
			if slices.Contains(three, a) {
				want++
			}
		}
		if count, ok := impl.ThreesAt(p, a); !ok || count != want {
			t.Error("ThreesAt", p, a, count, ok, "not", want)
		}
	}
}

// checkGroups holds what is told of a party's groups and strange people against all lists of them.
func checkGroups(t *testing.T, p impl.Party) {
	t.Helper()
	groups, strange := tiedLists(p, true), tiedLists(p, false)
	greatest, ok := impl.GreatestGroup(p)
	if want := longest(groups); !ok || !slices.Equal(greatest, want) {
		t.Error("GreatestGroup", p, greatest, ok, "not", want)
	}
	if is, ok := impl.IsGroup(p, greatest); !ok || !is {
		t.Error("IsGroup", p, greatest, is, ok)
	}
	if people, ok := impl.GreatestStrange(p); !ok || !slices.Equal(people, longest(strange)) {
		t.Error("GreatestStrange", p, people, ok, "not", longest(strange))
	}
	for size := range impl.MaxPeople + 1 {
		if count, ok := impl.CountGroups(p, size); !ok || count != len(ofSize(groups, size)) {
			t.Error("CountGroups", p, size, count, ok, "not", len(ofSize(groups, size)))
		}
	}
	other, _ := impl.OtherParty(p)
	for r := 1; r <= 4; r++ {
		for s := 1; s <= 4; s++ {
			want := len(ofSize(groups, r)) == 0 && len(ofSize(strange, s)) == 0
			neither, ok := impl.HasNeither(p, r, s)
			turned, fine := impl.HasNeither(other, s, r)
			if !ok || !fine || neither != want || turned != want {
				t.Error("HasNeither", p, r, s, neither, ok, "turned", turned, fine)
			}
			if bound, ok := impl.GroupBound(r, s); !ok || p.People >= bound && neither {
				t.Error("GroupBound", r, s, bound, ok, "but neither is in", p)
			}
			if least, ok := impl.LeastMustHave(r, s); ok && p.People >= least && neither {
				t.Error("LeastMustHave", r, s, least, "but neither is in", p)
			}
		}
	}
}

func TestTriplesOfAllParties(t *testing.T) {
	parties := append(someParties(), allParties(5)...)
	for _, p := range append(parties, mixedParties(9, 40)...) {
		checkThrees(t, p)
		checkGroups(t, p)
	}
}

// TestIsGroupOfAllLists tries all lists of few people, and of people beside them, in all orders.
func TestIsGroupOfAllLists(t *testing.T) {
	for _, p := range smallParties(4) {
		table := tableOf(p)
		for size := range 5 {
			for _, people := range allLists(size, -1, p.People) {
				want := areTied(table, inside(people, p.People), true) && len(inside(people, p.People)) == size
				for i := 1; i < size; i++ {
					want = want && people[i-1] < people[i]
				}
				if is, ok := impl.IsGroup(p, people); !ok || is != want {
					t.Error("IsGroup", p, people, is, ok)
				}
			}
		}
	}
}

// inside returns those numbers of a list that are in 0..n - 1.
func inside(list []int, n int) []int {
	return slices.DeleteFunc(slices.Clone(list), func(a int) bool { return a < 0 || a >= n })
}

// TestLeastOneKindIsMet makes for each number of people a party that has the least number of threes of one kind: everybody has half of the others as friends, or as nearly so as can be.
func TestLeastOneKindIsMet(t *testing.T) {
	for n := 1; n <= impl.MaxPeople; n++ {
		list := repeated(n, (n-1)/2)
		if can, _ := impl.CanBe(list); !can {
			list[0]++
		}
		p, ok := impl.PartyOfNumbers(list)
		if !ok {
			t.Fatal("PartyOfNumbers", list)
		}
		kind, ok := impl.CountByNumbers(p)
		least, fine := impl.LeastOneKind(n)
		if !ok || !fine || kind != least {
			t.Error("LeastOneKind", n, least, fine, "but", p, "has", kind, ok)
		}
		friends, strangers, _, _ := impl.CountThrees(p)
		if friends+strangers != kind {
			t.Error("CountByNumbers", p, kind, "but there are", friends, strangers)
		}
	}
}

// TestLeastOneKindOfAllNumbers looks for the least number among all numbers of friends that can be.
func TestLeastOneKindOfAllNumbers(t *testing.T) {
	for n := 1; n <= impl.MaxCounted; n++ {
		all, _ := impl.AllNumbers(n)
		least := math.MaxInt
		for _, list := range all {
			p, ok := impl.PartyOfNumbers(list)
			kind, fine := impl.CountByNumbers(p)
			if !ok || !fine {
				t.Fatal("CountByNumbers", p, kind, fine)
			}
			least = min(least, kind)
		}
		if told, ok := impl.LeastOneKind(n); !ok || told != least {
			t.Error("LeastOneKind", n, told, ok, "not", least)
		}
	}
}

// neitherTold is the first party that has neither, and how many there are.
type neitherTold struct {
	first impl.Party
	count int
}

// neitherByParties looks through all parties of n people for those that have neither, for each r and s.
func neitherByParties(n int) [5][5]neitherTold {
	var told [5][5]neitherTold
	choices := allChoices(n)
	for _, p := range allParties(n) {
		table := tableOf(p)
		group, strange := 0, 0
		for _, list := range choices {
			if len(list) > group && areTied(table, list, true) {
				group = len(list)
			}
			if len(list) > strange && areTied(table, list, false) {
				strange = len(list)
			}
		}
		for r := group + 1; r <= 4; r++ {
			for s := strange + 1; s <= 4; s++ {
				x := &told[r][s]
				if x.count == 0 || comesBefore(p, x.first) {
					x.first = p
				}
				x.count++
			}
		}
	}
	return told
}

// TestNeitherOfAllParties holds FirstNeither and CountNeither against all parties of at most 6 people.
func TestNeitherOfAllParties(t *testing.T) {
	for n := 0; n <= 6; n++ {
		told := neitherByParties(n)
		for r := 1; r <= 4; r++ {
			for s := 1; s <= 4; s++ {
				want := told[r][s]
				if count, ok := impl.CountNeither(n, r, s); !ok || count != want.count {
					t.Error("CountNeither", n, r, s, count, ok, "not", want.count)
				}
				first, ok := impl.FirstNeither(n, r, s)
				if ok != (want.count > 0) || !sameParty(first, want.first) {
					t.Error("FirstNeither", n, r, s, first, ok, "not", want.first)
				}
			}
		}
	}
}

// TestNeitherJustBelow holds the told least numbers of people, and the bounds, against the parties that have neither: there are some just below, and none from there on.
func TestNeitherJustBelow(t *testing.T) {
	for r := 1; r <= 4; r++ {
		for s := 1; s <= 4; s++ {
			bound, _ := impl.GroupBound(r, s)
			least, told := impl.LeastMustHave(r, s)
			if told != (r+s <= 7) || told && least > bound {
				t.Error("LeastMustHave", r, s, least, told, "GroupBound", bound)
			}
			for n := 0; n <= impl.MaxFree; n++ {
				p, ok := impl.FirstNeither(n, r, s)
				// Of four and four there is a party with neither up to 17 people.
				if want := !told || n < least; ok != want {
					t.Error("FirstNeither", n, r, s, p, ok, "LeastMustHave", least)
				}
				neither, fine := impl.HasNeither(p, r, s)
				if ok && (!impl.IsParty(p) || p.People != n || !fine || !neither) {
					t.Error("FirstNeither", n, r, s, p, "HasNeither", neither, fine)
				}
			}
		}
	}
}

// triplesValues returns the values with which the functions of chapter 3 are tried: right ones and others.
func triplesValues(t *testing.T) map[reflect.Type][]reflect.Value {
	values := map[reflect.Type][]reflect.Value{}
	for _, s := range []string{"0:", "1:", "2:0-1", "4:0-1,0-2,1-2,2-3", "5:0-1,0-4,1-2,2-3,3-4", "6:0-1,0-2,1-2,3-4,3-5,4-5", "12:", "12:0-11,1-10,2-9"} {
		addValues(values, mustParse(t, s))
	}
	full, _ := impl.FullParty(12)
	addValues(values, full)
	addValues(values, mixedParties(12, 2)...)
	addValues(values, wrongParties()...)
	addValues(values, math.MinInt, -1, 0, 1, 2, 3, 4, 5, 6, 7, 8, 9, 12, 13, math.MaxInt)
	addValues(values, nil, []int{}, []int{0}, []int{0, 1}, []int{0, 1, 2}, []int{0, 3}, []int{1, 0}, []int{0, 0}, []int{11}, []int{0, 11}, []int{-1, 0}, []int{math.MinInt, math.MaxInt}, repeated(100, 1))
	return values
}

func TestTriplesCallsKeepTheirArguments(t *testing.T) {
	values := triplesValues(t)
	for _, f := range []struct {
		name string
		call any
	}{
		{"CountThrees", impl.CountThrees},
		{"FriendThrees", impl.FriendThrees},
		{"CountByNumbers", impl.CountByNumbers},
		{"LeastOneKind", impl.LeastOneKind},
		{"ThreesAt", impl.ThreesAt},
		{"CountForks", impl.CountForks},
		{"GreatestGroup", impl.GreatestGroup},
		{"GreatestStrange", impl.GreatestStrange},
		{"CountGroups", impl.CountGroups},
		{"HasNeither", impl.HasNeither},
		{"FirstNeither", impl.FirstNeither},
		{"CountNeither", impl.CountNeither},
		{"LeastMustHave", impl.LeastMustHave},
		{"IsGroup", impl.IsGroup},
		{"GroupBound", impl.GroupBound},
	} {
		sweep(t, f.name, f.call, values)
	}
}
