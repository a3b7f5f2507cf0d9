package tests

import (
	"math"
	"slices"
	"strings"
	"testing"

	"loop.example/g01257/impl"
)

func TestPartyExample(t *testing.T) {
	line := mustParse(t, "4:0-1,1-2,2-3")
	if numbers, ok := impl.NumbersOfFriends(line); !ok || !slices.Equal(numbers, []int{1, 2, 2, 1}) {
		t.Error("NumbersOfFriends", numbers, ok)
	}
	o, ok := impl.OtherParty(line)
	wantParty(t, "OtherParty", o, ok, "4:0-2,0-3,1-3")
	if same, ok := impl.AreSame(line, o); !ok || !same {
		t.Error("AreSame", same, ok)
	}
	least, ok := impl.LeastParty(o)
	wantParty(t, "LeastParty of the other one", least, ok, "4:0-1,0-2,1-3")
	least, ok = impl.LeastParty(line)
	wantParty(t, "LeastParty", least, ok, "4:0-1,0-2,1-3")
	if count, ok := impl.CountNamed(line); !ok || count != 12 {
		t.Error("CountNamed", count, ok)
	}
	two := mustParse(t, "2:0-1")
	both, ok := impl.BesideParty(two, two)
	wantParty(t, "BesideParty", both, ok, "4:0-1,2-3")
	both, ok = impl.TogetherParty(two, two)
	wantParty(t, "TogetherParty", both, ok, "4:0-1,0-2,0-3,1-2,1-3,2-3")
}

func TestPartyConstants(t *testing.T) {
	if impl.MaxPeople != 12 {
		t.Error("MaxPeople", impl.MaxPeople)
	}
}

func TestIsParty(t *testing.T) {
	for _, p := range smallParties(5) {
		if !impl.IsParty(p) {
			t.Error("is a party:", p)
		}
	}
	for n := 0; n <= impl.MaxPeople; n++ {
		for _, p := range mixedParties(n, 20) {
			if !impl.IsParty(p) {
				t.Error("is a party:", p)
			}
		}
	}
	for _, p := range wrongParties() {
		if impl.IsParty(p) {
			t.Error("is no party:", p)
		}
	}
	if !impl.IsParty(impl.Party{}) || !impl.IsParty(impl.Party{Pairs: []impl.Pair{}}) {
		t.Error("nobody is a party")
	}
}

// TestIsPartyOfAnyLists tries all lists of up to three pairs with numbers -1..3 in a party of three: those are parties that are increasing lists of the three pairs.
func TestIsPartyOfAnyLists(t *testing.T) {
	var pairs []impl.Pair
	for a := -1; a <= 3; a++ {
		for b := -1; b <= 3; b++ {
			pairs = append(pairs, impl.Pair{A: a, B: b})
		}
	}
	right := map[string]bool{}
	for _, p := range allParties(3) {
		right[keyOf(p.Pairs)] = true
	}
	count := 0
	var try func(list []impl.Pair)
	try = func(list []impl.Pair) {
		is := impl.IsParty(impl.Party{People: 3, Pairs: list})
		if is != right[keyOf(list)] {
			t.Error("IsParty of 3 and", list, "is", is)
		}
		if is {
			count++
		}
		if len(list) == 3 {
			return
		}
		for _, x := range pairs {
			try(append(slices.Clone(list), x))
		}
	}
	try(nil)
	if count != 8 {
		t.Error("parties of three:", count)
	}
}

func keyOf(pairs []impl.Pair) string {
	var s strings.Builder
	for _, x := range pairs {
		s.WriteString(string(rune('m'+x.A)) + string(rune('m'+x.B)))
	}
	return s.String()
}

func TestEmptyAndFullParty(t *testing.T) {
	for _, n := range extremes {
		empty, ok := impl.EmptyParty(n)
		full, fine := impl.FullParty(n)
		if n < 0 || n > impl.MaxPeople {
			if ok || fine || !isZeroParty(empty) || !isZeroParty(full) {
				t.Error(n, empty, ok, full, fine)
			}
			continue
		}
		if !ok || empty.People != n || len(empty.Pairs) != 0 {
			t.Error("EmptyParty", n, empty, ok)
		}
		var all friendTable
		for a := range all {
			for b := range all[a] {
				all[a][b] = true
			}
		}
		if !fine || !sameParty(full, partyOfTable(n, all)) {
			t.Error("FullParty", n, full, fine)
		}
	}
	full, ok := impl.FullParty(3)
	wantParty(t, "FullParty of 3", full, ok, "3:0-1,0-2,1-2")
	if full, ok := impl.FullParty(12); !ok || len(full.Pairs) != 66 {
		t.Error("FullParty of 12", full, ok)
	}
}

// someParties returns all small parties, and some up to the limit.
func someParties() []impl.Party {
	list := smallParties(4)
	for n := 5; n <= impl.MaxPeople; n++ {
		list = append(list, mixedParties(n, 8)...)
	}
	return list
}

func TestFriends(t *testing.T) {
	for _, p := range someParties() {
		table := tableOf(p)
		numbers, ok := impl.NumbersOfFriends(p)
		if !ok || len(numbers) != p.People {
			t.Fatal("NumbersOfFriends", p, numbers, ok)
		}
		for a := 0; a < p.People; a++ {
			var want []int
			for b := 0; b < p.People; b++ {
				if table[a][b] {
					want = append(want, b)
				}
				are, ok := impl.AreFriends(p, a, b)
				if ok != (a != b) || are != table[a][b] {
					t.Error("AreFriends", p, a, b, are, ok)
				}
			}
			if friends, ok := impl.FriendsOf(p, a); !ok || !slices.Equal(friends, want) {
				t.Error("FriendsOf", p, a, friends, ok)
			}
			if numbers[a] != len(want) {
				t.Error("NumbersOfFriends", p, numbers)
			}
		}
	}
}

func TestPeopleOutsideTheParty(t *testing.T) {
	for _, p := range []impl.Party{{}, {People: 1}, mustParse(t, "3:0-1,1-2"), mustParse(t, "12:0-11")} {
		for _, a := range extremes {
			if a >= 0 && a < p.People {
				continue
			}
			if friends, ok := impl.FriendsOf(p, a); ok || friends != nil {
				t.Error("FriendsOf", p, a, friends, ok)
			}
			for _, b := range []int{a, 0, 1, -1, 12} {
				for _, x := range [][2]int{{a, b}, {b, a}} {
					if are, ok := impl.AreFriends(p, x[0], x[1]); ok || are {
						t.Error("AreFriends", p, x, are, ok)
					}
					if q, ok := impl.AddPair(p, x[0], x[1]); ok || !isZeroParty(q) {
						t.Error("AddPair", p, x, q, ok)
					}
					if q, ok := impl.DropPair(p, x[0], x[1]); ok || !isZeroParty(q) {
						t.Error("DropPair", p, x, q, ok)
					}
				}
			}
		}
	}
}

func TestAddAndDropPair(t *testing.T) {
	for _, p := range someParties() {
		for a := 0; a < p.People; a++ {
			for b := 0; b < p.People; b++ {
				table := tableOf(p)
				friends := table[a][b]
				table[a][b], table[b][a] = !friends, !friends
				want := partyOfTable(p.People, table)
				added, ok := impl.AddPair(p, a, b)
				if ok != (a != b && !friends) || ok && !sameParty(added, want) || !ok && !isZeroParty(added) {
					t.Error("AddPair", p, a, b, added, ok)
				}
				dropped, ok := impl.DropPair(p, a, b)
				if ok != (a != b && friends) || ok && !sameParty(dropped, want) || !ok && !isZeroParty(dropped) {
					t.Error("DropPair", p, a, b, dropped, ok)
				}
			}
		}
	}
}

func TestOtherParty(t *testing.T) {
	for _, p := range someParties() {
		table := tableOf(p)
		for a := range table {
			for b := range table[a] {
				table[a][b] = !table[a][b]
			}
		}
		if o, ok := impl.OtherParty(p); !ok || !sameParty(o, partyOfTable(p.People, table)) {
			t.Error("OtherParty", p, o, ok)
		}
	}
}

func TestChooseParty(t *testing.T) {
	for _, p := range someParties() {
		table := tableOf(p)
		choices := allChoices(p.People)
		for i, people := range choices {
			if p.People > 7 && i%37 != 5 && i != len(choices)-1 {
				continue
			}
			var chosen friendTable
			for i, a := range people {
				for j, b := range people {
					chosen[i][j] = table[a][b]
				}
			}
			if q, ok := impl.ChooseParty(p, people); !ok || !sameParty(q, partyOfTable(len(people), chosen)) {
				t.Error("ChooseParty", p, people, q, ok)
			}
		}
	}
	p := mustParse(t, "5:0-1,1-3,3-4")
	for _, people := range [][]int{{-1}, {5}, {0, 5}, {1, 0}, {2, 2}, {0, 1, 1}, {0, 2, 1}, {0, 1, 2, 3, 4, 4}, {0, 1, 2, 3, 4, 5}, {math.MinInt, 0}, {0, math.MaxInt}, make([]int, 100)} {
		if q, ok := impl.ChooseParty(p, people); ok || !isZeroParty(q) {
			t.Error("ChooseParty", people, q, ok)
		}
	}
	if q, ok := impl.ChooseParty(impl.Party{}, []int{0}); ok || !isZeroParty(q) {
		t.Error("ChooseParty of nobody", q, ok)
	}
}

func TestRenameParty(t *testing.T) {
	for _, p := range smallParties(4) {
		for _, names := range allOrders(p.People) {
			checkRenamed(t, p, names)
		}
	}
	for n := 5; n <= impl.MaxPeople; n++ {
		for i, p := range mixedParties(n, 20) {
			names := make([]int, n)
			for a := range names {
				names[a] = (a*[]int{1, n - 1}[i%2] + i) % n
			}
			names[0], names[n/2] = names[n/2], names[0]
			checkRenamed(t, p, names)
		}
	}
	q, ok := impl.RenameParty(mustParse(t, "4:0-1,0-2,2-3"), []int{2, 0, 3, 1})
	wantParty(t, "RenameParty", q, ok, "4:0-2,1-3,2-3")
}

func checkRenamed(t *testing.T, p impl.Party, names []int) {
	t.Helper()
	table := tableOf(p)
	var want friendTable
	for a := 0; a < p.People; a++ {
		for b := 0; b < p.People; b++ {
			want[names[a]][names[b]] = table[a][b]
		}
	}
	if q, ok := impl.RenameParty(p, names); !ok || !sameParty(q, partyOfTable(p.People, want)) {
		t.Error("RenameParty", p, names, q, ok)
	}
}

func TestRenamePartyOfWrongNames(t *testing.T) {
	p := mustParse(t, "3:0-1")
	for _, names := range [][]int{nil, {}, {0}, {0, 1}, {0, 1, 1}, {0, 0, 0}, {0, 1, 3}, {-1, 0, 1}, {1, 2, 3}, {0, 1, 2, 3}, {0, 1, 2, 2}, {0, 1, math.MaxInt}, {math.MinInt, 1, 2}} {
		if q, ok := impl.RenameParty(p, names); ok || !isZeroParty(q) {
			t.Error("RenameParty", names, q, ok)
		}
	}
	if q, ok := impl.RenameParty(impl.Party{}, []int{0}); ok || !isZeroParty(q) {
		t.Error("RenameParty of nobody", q, ok)
	}
	if q, ok := impl.RenameParty(impl.Party{}, nil); !ok || !isZeroParty(q) {
		t.Error("RenameParty of nobody to nobody", q, ok)
	}
}

func TestBesideAndTogether(t *testing.T) {
	parties := smallParties(3)
	for n := 4; n <= impl.MaxPeople; n++ {
		parties = append(parties, mixedParties(n, 4)...)
	}
	for _, p := range parties {
		for _, q := range parties {
			beside, ok := impl.BesideParty(p, q)
			together, fine := impl.TogetherParty(p, q)
			n := p.People + q.People
			if n > impl.MaxPeople {
				if ok || fine || !isZeroParty(beside) || !isZeroParty(together) {
					t.Error("too many:", p, q, beside, ok, together, fine)
				}
				continue
			}
			table := tableOf(p)
			for _, x := range q.Pairs {
				table[x.A+p.People][x.B+p.People] = true
			}
			if !ok || !sameParty(beside, partyOfTable(n, table)) {
				t.Error("BesideParty", p, q, beside, ok)
			}
			for a := 0; a < p.People; a++ {
				for b := p.People; b < n; b++ {
					table[a][b] = true
				}
			}
			if !fine || !sameParty(together, partyOfTable(n, table)) {
				t.Error("TogetherParty", p, q, together, fine)
			}
		}
	}
}

func TestPartsOfParty(t *testing.T) {
	for _, p := range append(someParties(), allParties(5)...) {
		parts, ok := impl.PartsOfParty(p)
		if !ok || !slices.EqualFunc(parts, partsBySteps(p), slices.Equal[[]int]) {
			t.Error("PartsOfParty", p, parts, ok)
		}
	}
	for _, x := range []struct {
		party string
		parts [][]int
	}{
		{"0:", nil},
		{"1:", [][]int{{0}}},
		{"5:0-3,1-4,2-3", [][]int{{0, 2, 3}, {1, 4}}},
		{"12:0-11,1-10,2-9,3-8,4-7,5-6", [][]int{{0, 11}, {1, 10}, {2, 9}, {3, 8}, {4, 7}, {5, 6}}},
		{"12:0-11,1-11,2-10,3-10,10-11", [][]int{{0, 1, 2, 3, 10, 11}, {4}, {5}, {6}, {7}, {8}, {9}}},
	} {
		if parts, ok := impl.PartsOfParty(mustParse(t, x.party)); !ok || !slices.EqualFunc(parts, x.parts, slices.Equal[[]int]) {
			t.Error("PartsOfParty", x.party, parts, ok)
		}
	}
}

// partsBySteps finds for each person all whom steps from friend to friend reach.
func partsBySteps(p impl.Party) [][]int {
	reach := tableOf(p)
	for a := range reach {
		reach[a][a] = true
	}
	for k := range reach {
		for a := range reach {
			for b := range reach {
				reach[a][b] = reach[a][b] || reach[a][k] && reach[k][b]
			}
		}
	}
	var parts [][]int
	for a := 0; a < p.People; a++ {
		if slices.Contains(reach[a][:a], true) {
			continue
		}
		var part []int
		for b := 0; b < p.People; b++ {
			if reach[a][b] {
				part = append(part, b)
			}
		}
		parts = append(parts, part)
	}
	return parts
}

func TestPartyFailsForWrongParties(t *testing.T) {
	one := impl.Party{People: 1}
	for _, p := range wrongParties() {
		names := []int{}
		for a := 0; a < p.People && a < 20; a++ {
			names = append(names, a)
		}
		_, friends := impl.AreFriends(p, 0, 1)
		_, of := impl.FriendsOf(p, 0)
		_, numbers := impl.NumbersOfFriends(p)
		_, add := impl.AddPair(p, 0, 1)
		_, drop := impl.DropPair(p, 0, 1)
		_, other := impl.OtherParty(p)
		_, choose := impl.ChooseParty(p, nil)
		_, rename := impl.RenameParty(p, names)
		_, beside := impl.BesideParty(p, one)
		_, beside2 := impl.BesideParty(one, p)
		_, together := impl.TogetherParty(p, one)
		_, together2 := impl.TogetherParty(one, p)
		_, parts := impl.PartsOfParty(p)
		_, least := impl.LeastParty(p)
		_, same := impl.AreSame(p, one)
		_, same2 := impl.AreSame(one, p)
		_, same3 := impl.AreSame(p, p)
		_, count := impl.CountNamed(p)
		_, text := impl.PartyText(p)
		for i, ok := range []bool{friends, of, numbers, add, drop, other, choose, rename, beside, beside2, together, together2, parts, least, same, same2, same3, count, text} {
			if ok {
				t.Error("function", i, "accepts", p)
			}
		}
	}
}

func TestPartyText(t *testing.T) {
	for _, x := range []struct {
		party impl.Party
		text  string
	}{
		{impl.Party{}, "0:"},
		{impl.Party{People: 1}, "1:"},
		{impl.Party{People: 12}, "12:"},
		{impl.Party{People: 2, Pairs: []impl.Pair{{A: 0, B: 1}}}, "2:0-1"},
		{impl.Party{People: 12, Pairs: []impl.Pair{{A: 0, B: 10}, {A: 9, B: 11}, {A: 10, B: 11}}}, "12:0-10,9-11,10-11"},
	} {
		if s, ok := impl.PartyText(x.party); !ok || s != x.text {
			t.Error("PartyText", x.party, s, ok)
		}
		if p, ok := impl.ParseParty(x.text); !ok || !sameParty(p, x.party) {
			t.Error("ParseParty", x.text, p, ok)
		}
	}
	for _, p := range someParties() {
		s, ok := impl.PartyText(p)
		if q, fine := impl.ParseParty(s); !ok || !fine || !sameParty(p, q) {
			t.Error("PartyText", p, s, ok, q, fine)
		}
	}
}

func TestParseParty(t *testing.T) {
	for _, s := range []string{
		"", ":", "0", "4", "-", ",", ":0-1", "x:", "0: ", " 0:", "0:\n", "\x00", "0::", "13:", "-1:", "+3:", "-0:", "03:", "00:", "3_0:", "0x3:", "3.0:", "1e1:",
		"99999999999999999999:", "18446744073709551619:", "9223372036854775808:", "4294967299:",
		"1:0-0", "1:0-1", "2:0-2", "2:1-0", "2:0-1,0-1", "3:0-2,0-1", "3:1-2,0-1", "3:0-1,", "3:,0-1", "3:0-1,,1-2", "3:,", "3:0-1;1-2", "3:0-1 ,1-2", "3:0-1, 1-2",
		"3:0", "3:0-", "3:-1", "3:0--1", "3:-0-1", "3:0-1-2", "3:00-1", "3:0-01", "3:+0-1", "3:0-+1", "3:0-1:", "3:0:1", "3:0-1\n", "3:0-1\x00", "3;0-1", "3:0\u20111", "\u0663:", "\xff:",
		"3:0-18446744073709551617", "3:0-4294967297", "12:0-12", "13:0-12", strings.Repeat("1", 1000) + ":", "3:" + strings.Repeat("0-1,", 1000) + "0-1", strings.Repeat(":", 100),
	} {
		if p, ok := impl.ParseParty(s); ok || !isZeroParty(p) {
			t.Errorf("ParseParty(%q): %v %v", s, p, ok)
		}
	}
}

// TestParsePartyOfChangedTexts changes one byte of right texts: what is parsed still is another text of a party, and no other.
func TestParsePartyOfChangedTexts(t *testing.T) {
	for _, s := range changedTexts("0:", "2:0-1", "4:0-1,1-2,2-3", "12:0-10,9-11,10-11") {
		p, ok := impl.ParseParty(s)
		if text, fine := impl.PartyText(p); ok && (!fine || text != s) || !ok && !isZeroParty(p) {
			t.Errorf("ParseParty(%q): %v %v", s, p, ok)
		}
	}
}
