package tests

import (
	"math"
	"slices"
	"testing"

	"loop.example/g01257/impl"
)

func TestTriplesExample(t *testing.T) {
	round := mustParse(t, "5:0-1,0-4,1-2,2-3,3-4")
	if friends, strangers, mixed, ok := impl.CountThrees(round); !ok || friends != 0 || strangers != 0 || mixed != 10 {
		t.Error("CountThrees", friends, strangers, mixed, ok)
	}
	if neither, ok := impl.HasNeither(round, 3, 3); !ok || !neither {
		t.Error("HasNeither", neither, ok)
	}
	if least, ok := impl.LeastOneKind(6); !ok || least != 2 {
		t.Error("LeastOneKind", least, ok)
	}
	if count, ok := impl.CountNeither(5, 3, 3); !ok || count != 12 {
		t.Error("CountNeither", count, ok)
	}
	if p, ok := impl.FirstNeither(6, 3, 3); ok || !isZeroParty(p) {
		t.Error("FirstNeither", p, ok)
	}
	p := mustParse(t, "4:0-1,0-2,1-2,2-3")
	if threes, ok := impl.FriendThrees(p); !ok || !slices.EqualFunc(threes, [][]int{{0, 1, 2}}, slices.Equal[[]int]) {
		t.Error("FriendThrees", threes, ok)
	}
	if forks, ok := impl.CountForks(p); !ok || forks != 5 {
		t.Error("CountForks", forks, ok)
	}
	// What the console of chapter 10 is told to reply.
	p, ok := impl.FirstNeither(5, 3, 3)
	wantParty(t, "FirstNeither", p, ok, "5:0-1,0-2,1-3,2-4,3-4")
}

func TestTriplesConstants(t *testing.T) {
	if impl.MaxFree != 8 {
		t.Error("MaxFree", impl.MaxFree)
	}
}

// triplesTold is all that chapter 3 tells of one party.
type triplesTold struct {
	party     string
	friends   int
	strangers int
	mixed     int
	forks     int
	group     []int
	strange   []int
}

// partiesTold are parties whose triples were counted by hand: parties of few people, full ones, empty ones, and those in which the first one of several lists is wanted.
func partiesTold() []triplesTold {
	twelve := []int{0, 1, 2, 3, 4, 5, 6, 7, 8, 9, 10, 11}
	return []triplesTold{
		{"0:", 0, 0, 0, 0, nil, nil},
		{"1:", 0, 0, 0, 0, []int{0}, []int{0}},
		{"2:", 0, 0, 0, 0, []int{0}, []int{0, 1}},
		{"2:0-1", 0, 0, 0, 0, []int{0, 1}, []int{0}},
		{"3:", 0, 1, 0, 0, []int{0}, []int{0, 1, 2}},
		{"3:1-2", 0, 0, 1, 0, []int{1, 2}, []int{0, 1}},
		{"3:0-2,1-2", 0, 0, 1, 1, []int{0, 2}, []int{0, 1}},
		{"3:0-1,0-2,1-2", 1, 0, 0, 3, []int{0, 1, 2}, []int{0}},
		{"4:0-1,0-2,1-2,2-3", 1, 0, 3, 5, []int{0, 1, 2}, []int{0, 3}},
		{"4:0-3,1-2", 0, 0, 4, 0, []int{0, 3}, []int{0, 1}},
		{"6:0-1,0-2,1-2,3-4,3-5,4-5", 2, 0, 18, 6, []int{0, 1, 2}, []int{0, 3}},
		{"6:0-5,1-4,2-3", 0, 8, 12, 0, []int{0, 5}, []int{0, 1, 2}},
		{"7:0-6,1-6,2-6,3-6,4-6,5-6", 0, 20, 15, 15, []int{0, 6}, []int{0, 1, 2, 3, 4, 5}},
		{"12:", 0, 220, 0, 0, []int{0}, twelve},
		{"12:10-11", 0, 210, 10, 0, []int{10, 11}, twelve[:11]},
		{"12:8-9,8-11,9-11", 1, 192, 27, 3, []int{8, 9, 11}, []int{0, 1, 2, 3, 4, 5, 6, 7, 8, 10}},
	}
}

func TestPartiesTold(t *testing.T) {
	for _, x := range partiesTold() {
		p := mustParse(t, x.party)
		if friends, strangers, mixed, ok := impl.CountThrees(p); !ok || friends != x.friends || strangers != x.strangers || mixed != x.mixed {
			t.Error("CountThrees", x.party, friends, strangers, mixed, ok)
		}
		if count, ok := impl.CountByNumbers(p); !ok || count != x.friends+x.strangers {
			t.Error("CountByNumbers", x.party, count, ok)
		}
		if forks, ok := impl.CountForks(p); !ok || forks != x.forks {
			t.Error("CountForks", x.party, forks, ok)
		}
		if group, ok := impl.GreatestGroup(p); !ok || !slices.Equal(group, x.group) {
			t.Error("GreatestGroup", x.party, group, ok)
		}
		if strange, ok := impl.GreatestStrange(p); !ok || !slices.Equal(strange, x.strange) {
			t.Error("GreatestStrange", x.party, strange, ok)
		}
	}
}

func TestTriplesOfNobody(t *testing.T) {
	nobody := impl.Party{}
	if threes, ok := impl.FriendThrees(nobody); !ok || len(threes) != 0 {
		t.Error("FriendThrees", threes, ok)
	}
	if count, ok := impl.ThreesAt(nobody, 0); ok || count != 0 {
		t.Error("ThreesAt", count, ok)
	}
	for size := 0; size <= impl.MaxPeople; size++ {
		want := 0
		if size == 0 {
			want = 1
		}
		if count, ok := impl.CountGroups(nobody, size); !ok || count != want {
			t.Error("CountGroups", size, count, ok)
		}
	}
	for _, people := range [][]int{nil, {}} {
		for _, p := range []impl.Party{nobody, {People: 1}, mustParse(t, "12:0-11")} {
			if is, ok := impl.IsGroup(p, people); !ok || !is {
				t.Error("IsGroup of nobody", p, is, ok)
			}
		}
	}
	for r := 1; r <= 4; r++ {
		for s := 1; s <= 4; s++ {
			neither, ok1 := impl.HasNeither(nobody, r, s)
			first, ok2 := impl.FirstNeither(0, r, s)
			count, ok3 := impl.CountNeither(0, r, s)
			if !ok1 || !ok2 || !ok3 || !neither || !isZeroParty(first) || count != 1 {
				t.Error(r, s, neither, ok1, first, ok2, count, ok3)
			}
		}
	}
}

func TestGroupsOfFullParties(t *testing.T) {
	for n := 0; n <= impl.MaxPeople; n++ {
		full, _ := impl.FullParty(n)
		empty, _ := impl.EmptyParty(n)
		ways := 1
		for size := 0; size <= impl.MaxPeople; size++ {
			if count, ok := impl.CountGroups(full, size); !ok || count != ways {
				t.Error("CountGroups of", n, "friends:", size, count, ok, "not", ways)
			}
			ways = ways * (n - size) / (size + 1)
			want := 0
			switch size {
			case 0:
				want = 1
			case 1:
				want = n
			}
			if count, ok := impl.CountGroups(empty, size); !ok || count != want {
				t.Error("CountGroups of", n, "strangers:", size, count, ok)
			}
		}
	}
}

func TestLeastOneKind(t *testing.T) {
	// By the formulas of chapter 6, of which there is one for even numbers and one for each odd rest modulo 4.
	for n, want := range []int{0, 0, 0, 0, 0, 0, 2, 4, 8, 12, 20, 28, 40} {
		if least, ok := impl.LeastOneKind(n); !ok || least != want {
			t.Error("LeastOneKind", n, least, ok, "not", want)
		}
	}
	for _, n := range extremes {
		if n >= 0 && n <= impl.MaxPeople {
			continue
		}
		if least, ok := impl.LeastOneKind(n); ok || least != 0 {
			t.Error("LeastOneKind", n, least, ok)
		}
	}
}

// isWanted reports whether a number may be r or s.
func isWanted(number int) bool {
	return number >= 1 && number <= 4
}

func TestLeastMustHave(t *testing.T) {
	told := map[[2]int]int{
		{1, 1}: 1, {1, 2}: 1, {1, 3}: 1, {1, 4}: 1, {2, 2}: 2, {2, 3}: 3, {2, 4}: 4, {3, 3}: 6, {3, 4}: 9,
	}
	for _, r := range append(slices.Clone(extremes), 4, 5) {
		for _, s := range append(slices.Clone(extremes), 4, 5) {
			want := told[[2]int{min(r, s), max(r, s)}]
			if least, ok := impl.LeastMustHave(r, s); ok != (want > 0) || least != want {
				t.Error("LeastMustHave", r, s, least, ok, "not", want)
			}
		}
	}
}

func TestGroupBound(t *testing.T) {
	bounds := [][]int{{1, 1, 1, 1}, {1, 2, 3, 4}, {1, 3, 6, 10}, {1, 4, 10, 20}}
	for _, r := range append(slices.Clone(extremes), 4, 5) {
		for _, s := range append(slices.Clone(extremes), 4, 5) {
			want := 0
			if isWanted(r) && isWanted(s) {
				want = bounds[r-1][s-1]
			}
			if bound, ok := impl.GroupBound(r, s); ok != (want > 0) || bound != want {
				t.Error("GroupBound", r, s, bound, ok, "not", want)
			}
		}
	}
}

// TestFirstNeitherAtTheLimit tries the most people, and one more.
func TestFirstNeitherAtTheLimit(t *testing.T) {
	for _, x := range []struct {
		n     int
		r     int
		s     int
		first string
	}{
		{1, 2, 2, "1:"},
		{2, 2, 3, "2:"},
		{2, 3, 2, "2:0-1"},
		{3, 2, 4, "3:"},
		{3, 4, 2, "3:0-1,0-2,1-2"},
		{3, 4, 4, "3:"},
		{4, 4, 4, "4:0-1"},
		{5, 3, 4, "5:0-1,0-2,0-3,1-4"},
		{7, 3, 4, "7:0-1,0-2,0-3,1-4,1-5,2-4,2-5,3-4,3-6,5-6"},
		{7, 4, 3, "7:0-1,0-2,0-3,0-4,0-5,1-2,1-3,1-6,2-4,2-6,3-5,3-6,4-5"},
		{7, 4, 4, "7:0-1,0-2,0-3,0-4,0-5,0-6,1-2,1-3,1-4,2-5,2-6,3-5"},
		{8, 3, 4, "8:0-1,0-2,0-3,1-4,1-5,2-4,2-6,3-5,3-7,4-7,5-6"},
		{8, 4, 3, "8:0-1,0-2,0-3,0-4,0-5,1-2,1-3,1-6,1-7,2-4,2-6,3-5,3-7,4-5,4-6,4-7,5-7,6-7"},
		{8, 4, 4, "8:0-1,0-2,0-3,0-4,0-5,0-6,0-7,1-2,1-3,1-4,2-5,2-6,3-5,3-6,4-5,4-7,6-7"},
	} {
		p, ok := impl.FirstNeither(x.n, x.r, x.s)
		wantParty(t, "FirstNeither", p, ok, x.first)
	}
	for _, x := range [][3]int{
		{1, 1, 4}, {1, 4, 1}, {2, 2, 2}, {3, 2, 3}, {3, 3, 2}, {4, 2, 4}, {4, 4, 2}, {7, 3, 3}, {8, 3, 3}, {8, 2, 4}, {8, 4, 2}, {8, 1, 1},
		{9, 4, 4}, {9, 3, 4}, {10, 4, 4}, {12, 4, 4}, {13, 4, 4}, {-1, 4, 4}, {math.MaxInt, 4, 4}, {math.MinInt, 4, 4},
	} {
		if p, ok := impl.FirstNeither(x[0], x[1], x[2]); ok || !isZeroParty(p) {
			t.Error("FirstNeither", x, p, ok)
		}
	}
}

// TestCountNeitherAtTheLimit tries the most people whose parties are counted, and one more.
func TestCountNeitherAtTheLimit(t *testing.T) {
	for _, x := range [][4]int{
		{1, 1, 1, 0}, {1, 2, 2, 1}, {3, 3, 3, 6}, {4, 3, 3, 18}, {4, 4, 4, 62}, {5, 3, 4, 322}, {6, 3, 3, 0}, {6, 3, 4, 2812}, {6, 4, 3, 2812}, {6, 4, 4, 22484}, {6, 2, 4, 0},
	} {
		if count, ok := impl.CountNeither(x[0], x[1], x[2]); !ok || count != x[3] {
			t.Error("CountNeither", x, count, ok)
		}
	}
	for _, n := range []int{7, 8, 12, 13, -1, math.MaxInt, math.MinInt} {
		for _, r := range []int{1, 4} {
			if count, ok := impl.CountNeither(n, r, 4); ok || count != 0 {
				t.Error("CountNeither", n, r, count, ok)
			}
		}
	}
}

func TestNeitherFailsForWrongNumbers(t *testing.T) {
	round := mustParse(t, "5:0-1,0-4,1-2,2-3,3-4")
	for _, r := range append(slices.Clone(extremes), 4, 5) {
		for _, s := range append(slices.Clone(extremes), 4, 5) {
			neither, ok1 := impl.HasNeither(round, r, s)
			first, ok2 := impl.FirstNeither(2, r, s)
			count, ok3 := impl.CountNeither(2, r, s)
			if isWanted(r) && isWanted(s) {
				if !ok1 || !ok3 || ok2 != (count > 0) {
					t.Error(r, s, neither, ok1, first, ok2, count, ok3)
				}
			} else if ok1 || ok2 || ok3 || neither || !isZeroParty(first) || count != 0 {
				t.Error(r, s, neither, ok1, first, ok2, count, ok3)
			}
		}
	}
}

func TestCountGroupsFailsForWrongSizes(t *testing.T) {
	for _, p := range []impl.Party{{}, {People: 1}, mustParse(t, "12:0-11")} {
		for _, size := range extremes {
			count, ok := impl.CountGroups(p, size)
			if ok != (size >= 0 && size <= impl.MaxPeople) || !ok && count != 0 || size > p.People && count != 0 {
				t.Error("CountGroups", p, size, count, ok)
			}
		}
	}
}

func TestThreesAtPeopleOutside(t *testing.T) {
	for _, p := range []impl.Party{{}, {People: 1}, mustParse(t, "3:0-1,0-2,1-2"), mustParse(t, "12:0-11")} {
		for _, a := range extremes {
			count, ok := impl.ThreesAt(p, a)
			if ok != (a >= 0 && a < p.People) || !ok && count != 0 {
				t.Error("ThreesAt", p, a, count, ok)
			}
		}
	}
}

// TestIsGroupOfAnyLists tries lists that are no groups: they are none, but the call does not fail.
func TestIsGroupOfAnyLists(t *testing.T) {
	p := mustParse(t, "4:0-1,0-2,1-2,2-3")
	for _, people := range [][]int{{0}, {3}, {0, 1}, {2, 3}, {0, 1, 2}} {
		if is, ok := impl.IsGroup(p, people); !ok || !is {
			t.Error("IsGroup", people, is, ok)
		}
	}
	for _, people := range [][]int{
		{0, 3}, {1, 3}, {0, 2, 3}, {0, 1, 2, 3}, {1, 0}, {2, 1, 0}, {0, 2, 1}, {0, 0}, {2, 2}, {0, 0, 1}, {0, 1, 1}, {0, 1, 2, 2},
		{4}, {-1}, {-1, 0}, {0, 4}, {2, 4}, {math.MinInt}, {math.MaxInt}, {math.MinInt, 0}, {0, math.MaxInt}, {math.MinInt, math.MaxInt}, make([]int, 1000),
	} {
		if is, ok := impl.IsGroup(p, people); !ok || is {
			t.Error("IsGroup", people, is, ok)
		}
	}
	full, _ := impl.FullParty(12)
	all := []int{0, 1, 2, 3, 4, 5, 6, 7, 8, 9, 10, 11}
	if is, ok := impl.IsGroup(full, all); !ok || !is {
		t.Error("IsGroup of twelve", is, ok)
	}
	if is, ok := impl.IsGroup(full, append(all, 12)); !ok || is {
		t.Error("IsGroup of thirteen", is, ok)
	}
}

func TestTriplesFailForWrongParties(t *testing.T) {
	for _, p := range wrongParties() {
		friends, strangers, mixed, ok1 := impl.CountThrees(p)
		threes, ok2 := impl.FriendThrees(p)
		kind, ok3 := impl.CountByNumbers(p)
		at, ok4 := impl.ThreesAt(p, 0)
		forks, ok5 := impl.CountForks(p)
		group, ok6 := impl.GreatestGroup(p)
		strange, ok7 := impl.GreatestStrange(p)
		count, ok8 := impl.CountGroups(p, 0)
		neither, ok9 := impl.HasNeither(p, 4, 4)
		is, ok10 := impl.IsGroup(p, nil)
		for i, ok := range []bool{ok1, ok2, ok3, ok4, ok5, ok6, ok7, ok8, ok9, ok10} {
			if ok {
				t.Error("function", i+1, "accepts", p)
			}
		}
		if friends != 0 || strangers != 0 || mixed != 0 || kind != 0 || at != 0 || forks != 0 || count != 0 {
			t.Error(p, "fails with", friends, strangers, mixed, kind, at, forks, count)
		}
		if threes != nil || group != nil || strange != nil || neither || is {
			t.Error(p, "fails with", threes, group, strange, neither, is)
		}
	}
}
