package tests

import (
	"math"
	"slices"
	"testing"

	"loop.example/g01257/impl"
)

func TestNumbersExample(t *testing.T) {
	if can, ok := impl.CanBe([]int{3, 1, 2, 2, 2}); !ok || !can {
		t.Error("CanBe", can, ok)
	}
	p, ok := impl.PartyOfNumbers([]int{3, 1, 2, 2, 2})
	wantParty(t, "PartyOfNumbers", p, ok, "5:0-2,0-3,0-4,1-2,3-4")
	if can, ok := impl.CanBe([]int{3, 3, 1, 1}); !ok || can {
		t.Error("CanBe", can, ok)
	}
	if k, ok := impl.FailsAt([]int{3, 3, 1, 1}); !ok || k != 2 {
		t.Error("FailsAt", k, ok)
	}
	if count, ok := impl.CountOfNumbers([]int{1, 1, 1, 1}); !ok || count != 3 {
		t.Error("CountOfNumbers", count, ok)
	}
	p, ok = impl.FirstOfNumbers([]int{1, 1, 1, 1})
	wantParty(t, "FirstOfNumbers", p, ok, "4:0-1,2-3")
	p, ok = impl.TreeOfNumbers([]int{1, 2, 2, 1})
	wantParty(t, "TreeOfNumbers", p, ok, "4:0-1,1-2,2-3")
}

func TestNumbersConstants(t *testing.T) {
	if impl.MaxCounted != 7 {
		t.Error("MaxCounted", impl.MaxCounted)
	}
}

// allLists returns all lists of n numbers from..to, in lexicographic order.
func allLists(n int, from int, to int) [][]int {
	lists := [][]int{{}}
	for range n {
		var longer [][]int
		for _, list := range lists {
			for number := from; number <= to; number++ {
				longer = append(longer, append(slices.Clone(list), number))
			}
		}
		lists = longer
	}
	return lists
}

// isFalling reports whether no number is greater than the one before.
func isFalling(list []int) bool {
	for i := 1; i < len(list); i++ {
		if list[i] > list[i-1] {
			return false
		}
	}
	return true
}

func isZero(list []int) bool {
	return !slices.ContainsFunc(list, func(number int) bool { return number != 0 })
}

// repeated returns a list of n numbers that are all the same one.
func repeated(n int, number int) []int {
	return slices.Repeat([]int{number}, n)
}

// wrongNumbers returns lists that are no numbers.
func wrongNumbers() [][]int {
	return [][]int{
		{1}, {-1}, {2, 0}, {0, 2}, {1, -1}, {-1, 1}, {0, 0, 3}, {3, 2, 2}, {4, 4, 4, 4}, {1, 1, 1, -1}, {0, 0, 0, 0, 5}, {7, 1, 1, 1, 1, 1, 1},
		{math.MaxInt}, {math.MinInt}, {math.MinInt, math.MaxInt}, {math.MaxInt, math.MaxInt}, {math.MaxInt, math.MaxInt, 2}, {1, 1, math.MinInt},
		{0, 0, 0, 0, 0, 0, 0, 0, 0, 0, 0, 12}, {12, 1, 1, 1, 1, 1, 1, 1, 1, 1, 1, 1}, {11, 1, 1, 1, 1, 1, 1, 1, 1, 1, 1, -1},
		repeated(13, 0), repeated(13, 2), repeated(13, 12), repeated(14, 1), repeated(100, 11), repeated(1000, math.MaxInt),
	}
}

func TestIsNumbers(t *testing.T) {
	for n := 0; n <= 4; n++ {
		for _, list := range allLists(n, -1, n+1) {
			want := true
			for _, number := range list {
				want = want && number >= 0 && number < n
			}
			if is := impl.IsNumbers(list); is != want {
				t.Error("IsNumbers", list, is)
			}
		}
	}
	for n := 1; n <= impl.MaxPeople; n++ {
		for _, number := range extremes {
			for i := range n {
				list := repeated(n, 0)
				list[i] = number
				if is := impl.IsNumbers(list); is != (number >= 0 && number < n) {
					t.Error("IsNumbers", list, is)
				}
			}
		}
	}
	for _, list := range wrongNumbers() {
		if impl.IsNumbers(list) {
			t.Error("are no numbers:", list)
		}
	}
	if !impl.IsNumbers(nil) || !impl.IsNumbers([]int{}) || !impl.IsNumbers(repeated(12, 11)) {
		t.Error("no people, and twelve ones, have numbers")
	}
}

func TestNumbersFailForWrongLists(t *testing.T) {
	for _, list := range wrongNumbers() {
		can, ok1 := impl.CanBe(list)
		k, ok2 := impl.FailsAt(list)
		sorted, ok3 := impl.SortNumbers(list)
		party, ok4 := impl.PartyOfNumbers(list)
		first, ok5 := impl.FirstOfNumbers(list)
		count, ok6 := impl.CountOfNumbers(list)
		others, ok7 := impl.OtherNumbers(list)
		together, ok8 := impl.HangTogether(list)
		tree, ok9 := impl.TreeOfNumbers(list)
		only, ok10 := impl.IsOnly(list)
		for i, ok := range []bool{ok1, ok2, ok3, ok4, ok5, ok6, ok7, ok8, ok9, ok10} {
			if ok {
				t.Error("function", i+1, "accepts", list)
			}
		}
		if can || k != 0 || sorted != nil || others != nil || count != 0 || together || only {
			t.Error(list, "fails with", can, k, sorted, others, count, together, only)
		}
		if !isZeroParty(party) || !isZeroParty(first) || !isZeroParty(tree) {
			t.Error(list, "fails with", party, first, tree)
		}
	}
}

func TestNumbersOfNobody(t *testing.T) {
	for _, list := range [][]int{nil, {}} {
		can, ok := impl.CanBe(list)
		only, fine := impl.IsOnly(list)
		if !ok || !can || !fine || !only {
			t.Error("CanBe", can, ok, "IsOnly", only, fine)
		}
		if k, ok := impl.FailsAt(list); ok || k != 0 {
			t.Error("FailsAt", k, ok)
		}
		sorted, ok := impl.SortNumbers(list)
		others, fine := impl.OtherNumbers(list)
		if !ok || !fine || len(sorted) != 0 || len(others) != 0 {
			t.Error("SortNumbers", sorted, ok, "OtherNumbers", others, fine)
		}
		p, ok := impl.PartyOfNumbers(list)
		wantParty(t, "PartyOfNumbers", p, ok, "0:")
		p, ok = impl.FirstOfNumbers(list)
		wantParty(t, "FirstOfNumbers", p, ok, "0:")
		if count, ok := impl.CountOfNumbers(list); !ok || count != 1 {
			t.Error("CountOfNumbers", count, ok)
		}
		if together, ok := impl.HangTogether(list); ok || together {
			t.Error("HangTogether", together, ok)
		}
		if p, ok := impl.TreeOfNumbers(list); ok || !isZeroParty(p) {
			t.Error("TreeOfNumbers", p, ok)
		}
	}
	all, ok := impl.AllNumbers(0)
	if !ok || len(all) != 1 || len(all[0]) != 0 {
		t.Error("AllNumbers", all, ok)
	}
	if exchanges, ok := impl.AllExchanges(impl.Party{}); !ok || len(exchanges) != 0 {
		t.Error("AllExchanges", exchanges, ok)
	}
	if a, b, ok := impl.TwoAlike(impl.Party{}); ok || a != 0 || b != 0 {
		t.Error("TwoAlike", a, b, ok)
	}
}

func TestFailsAt(t *testing.T) {
	for _, x := range []struct {
		list []int
		k    int
	}{
		{[]int{0}, 0},
		{[]int{1, 0}, 1},
		{[]int{0, 1}, 1},
		{[]int{1, 1}, 0},
		{[]int{1, 1, 1}, 0},
		{[]int{2, 0, 0}, 1},
		{[]int{0, 2, 2}, 1},
		{[]int{2, 2, 1}, 2},
		{[]int{1, 2, 2}, 2},
		{[]int{1, 3, 1, 3}, 2},
		{[]int{3, 3, 3, 1}, 2},
		{[]int{3, 3, 3, 2}, 3},
		{[]int{1, 1, 4, 4, 4}, 2},
		{[]int{4, 4, 4, 2, 2}, 3},
		{repeated(11, 9), 0},
		{repeated(12, 11), 0},
		{append(repeated(11, 11), 10), 11},
		{append(repeated(6, 11), repeated(6, 5)...), 6},
		{append(repeated(6, 11), repeated(6, 6)...), 0},
		{append(repeated(11, 0), 11), 1},
	} {
		if k, ok := impl.FailsAt(x.list); k != x.k || ok != (x.k > 0) {
			t.Error("FailsAt", x.list, k, ok, "not", x.k)
		}
	}
}

// TestFailsAtOfAllNumbers holds FailsAt against what the k people with the greatest numbers can have: k - 1 friends each among them, and of each other person at most its number or k.
func TestFailsAtOfAllNumbers(t *testing.T) {
	for n := 0; n <= 5; n++ {
		for _, list := range allLists(n, 0, n-1) {
			falling := slices.Clone(list)
			slices.Sort(falling)
			slices.Reverse(falling)
			want := 0
			for k := n; k >= 1; k-- {
				over := -k * (k - 1)
				for i, number := range falling {
					if i < k {
						over += number
					} else if number < k {
						over -= number
					} else {
						over -= k
					}
				}
				if over > 0 {
					want = k
				}
			}
			if k, ok := impl.FailsAt(list); k != want || ok != (want > 0) {
				t.Error("FailsAt", list, k, ok, "not", want)
			}
		}
	}
}

func TestCanBeAtTheLimits(t *testing.T) {
	for _, x := range []struct {
		list []int
		can  bool
	}{
		{repeated(12, 0), true},
		{repeated(12, 1), true},
		{repeated(12, 11), true},
		{repeated(11, 1), false},
		{repeated(11, 10), true},
		{append(repeated(11, 1), 11), true},
		{append(repeated(11, 1), 10), false},
		{append(repeated(11, 1), 9), true},
		{append(repeated(11, 11), 0), false},
		{append(repeated(11, 10), 0), true},
		{append(repeated(6, 11), repeated(6, 6)...), true},
		{append(repeated(6, 11), repeated(6, 5)...), false},
		{[]int{0, 1, 2, 3, 4, 5, 6, 7, 8, 9, 10, 11}, false},
		{[]int{1, 2, 3, 4, 5, 6, 6, 7, 8, 9, 10, 11}, true},
	} {
		if can, ok := impl.CanBe(x.list); !ok || can != x.can {
			t.Error("CanBe", x.list, can, ok)
		}
		p, ok := impl.PartyOfNumbers(x.list)
		if ok != x.can || !ok && !isZeroParty(p) {
			t.Error("PartyOfNumbers", x.list, p, ok)
		}
		if numbers, fine := impl.NumbersOfFriends(p); ok && (!fine || !slices.Equal(numbers, x.list)) {
			t.Error("PartyOfNumbers", x.list, "has", numbers, fine)
		}
	}
}

func TestSortAndOtherNumbers(t *testing.T) {
	lists := append(allLists(4, 0, 3), allLists(3, 0, 2)...)
	lists = append(lists, []int{0, 11, 3, 3, 10, 2, 11, 0, 1, 5, 10, 7}, repeated(12, 6), []int{0})
	for _, list := range lists {
		sorted, ok := impl.SortNumbers(list)
		want := slices.Clone(list)
		slices.Sort(want)
		slices.Reverse(want)
		if !ok || !slices.Equal(sorted, want) {
			t.Error("SortNumbers", list, sorted, ok)
		}
		others, ok := impl.OtherNumbers(list)
		if !ok || len(others) != len(list) {
			t.Fatal("OtherNumbers", list, others, ok)
		}
		for i, number := range list {
			if others[i]+number != len(list)-1 {
				t.Error("OtherNumbers", list, others)
			}
		}
	}
	for _, p := range someParties() {
		numbers, _ := impl.NumbersOfFriends(p)
		o, _ := impl.OtherParty(p)
		want, _ := impl.NumbersOfFriends(o)
		if others, ok := impl.OtherNumbers(numbers); !ok || !slices.Equal(others, want) {
			t.Error("OtherNumbers", numbers, others, ok, "not", want)
		}
	}
}

// TestCountedNumbersAtTheLimit tries what is counted for 7 people, and for no more.
func TestCountedNumbersAtTheLimit(t *testing.T) {
	for _, x := range []struct {
		list  []int
		count int
		first string
	}{
		{[]int{0}, 1, "1:"},
		{[]int{1, 1}, 1, "2:0-1"},
		{[]int{1, 0}, 0, ""},
		{[]int{1, 1, 1, 1, 1, 1}, 15, "6:0-1,2-3,4-5"},
		{[]int{3, 3, 3, 3, 3, 3}, 70, "6:0-1,0-2,0-3,1-2,1-4,2-5,3-4,3-5,4-5"},
		{repeated(7, 0), 1, "7:"},
		{repeated(7, 1), 0, ""},
		{repeated(7, 2), 465, "7:0-1,0-2,1-2,3-4,3-5,4-6,5-6"},
		{[]int{1, 1, 1, 1, 1, 1, 6}, 1, "7:0-6,1-6,2-6,3-6,4-6,5-6"},
		{[]int{0, 0, 1, 2, 1, 2, 0}, 2, "7:2-3,3-5,4-5"},
		{[]int{6, 6, 6, 6, 6, 6, 5}, 0, ""},
	} {
		if count, ok := impl.CountOfNumbers(x.list); !ok || count != x.count {
			t.Error("CountOfNumbers", x.list, count, ok, "not", x.count)
		}
		if only, ok := impl.IsOnly(x.list); !ok || only != (x.count == 1) {
			t.Error("IsOnly", x.list, only, ok)
		}
		p, ok := impl.FirstOfNumbers(x.list)
		if x.count > 0 {
			wantParty(t, "FirstOfNumbers", p, ok, x.first)
		} else if ok || !isZeroParty(p) {
			t.Error("FirstOfNumbers", x.list, p, ok)
		}
	}
	for n := 8; n <= impl.MaxPeople; n++ {
		for _, list := range [][]int{repeated(n, 0), repeated(n, 2), repeated(n, n-1), append(repeated(n-1, 1), n-1)} {
			first, ok1 := impl.FirstOfNumbers(list)
			count, ok2 := impl.CountOfNumbers(list)
			only, ok3 := impl.IsOnly(list)
			if ok1 || ok2 || ok3 || !isZeroParty(first) || count != 0 || only {
				t.Error("counted:", list, first, ok1, count, ok2, only, ok3)
			}
			if can, ok := impl.CanBe(list); !ok || !can {
				t.Error("CanBe", list, can, ok)
			}
		}
	}
}

func TestAllNumbers(t *testing.T) {
	counts := []int{1, 1, 2, 4, 11, 31, 102, 342}
	for n, want := range counts {
		all, ok := impl.AllNumbers(n)
		count, fine := impl.CountNumbers(n)
		if !ok || !fine || len(all) != want || count != want {
			t.Error("AllNumbers", n, len(all), ok, "CountNumbers", count, fine, "not", want)
		}
		for i, list := range all {
			if can, ok := impl.CanBe(list); len(list) != n || !isFalling(list) || !ok || !can {
				t.Error("AllNumbers", n, "has", list)
			}
			if i > 0 && slices.Compare(all[i-1], list) >= 0 {
				t.Error("AllNumbers", n, "has", list, "behind", all[i-1])
			}
		}
	}
	all, ok := impl.AllNumbers(3)
	if !ok || !slices.EqualFunc(all, [][]int{{0, 0, 0}, {1, 1, 0}, {2, 1, 1}, {2, 2, 2}}, slices.Equal[[]int]) {
		t.Error("AllNumbers of 3:", all, ok)
	}
	for _, n := range extremes {
		if n >= 0 && n <= impl.MaxCounted {
			continue
		}
		all, ok := impl.AllNumbers(n)
		count, fine := impl.CountNumbers(n)
		if ok || fine || all != nil || count != 0 {
			t.Error("AllNumbers", n, len(all), ok, "CountNumbers", count, fine)
		}
	}
}

func TestTwoAlike(t *testing.T) {
	for _, p := range append(someParties(), allParties(5)...) {
		numbers, _ := impl.NumbersOfFriends(p)
		x, y, found := 0, 0, false
		for a := p.People - 1; a >= 0; a-- {
			for b := p.People - 1; b > a; b-- {
				if numbers[a] == numbers[b] {
					x, y, found = a, b, true
				}
			}
		}
		a, b, ok := impl.TwoAlike(p)
		if a != x || b != y || ok != found || ok != (p.People >= 2) {
			t.Error("TwoAlike", p, a, b, ok)
		}
	}
	if a, b, ok := impl.TwoAlike(mustParse(t, "12:0-1,0-2,1-2,2-3,10-11")); !ok || a != 0 || b != 1 {
		t.Error("TwoAlike", a, b, ok)
	}
	if a, b, ok := impl.TwoAlike(mustParse(t, "4:0-1,0-2,0-3,1-2")); !ok || a != 1 || b != 2 {
		t.Error("TwoAlike", a, b, ok)
	}
	if a, b, ok := impl.TwoAlike(mustParse(t, "1:")); ok || a != 0 || b != 0 {
		t.Error("TwoAlike of one", a, b, ok)
	}
}

func TestHangTogetherAtTheLimits(t *testing.T) {
	for _, x := range []struct {
		list     []int
		together bool
	}{
		{[]int{0}, true},
		{[]int{0, 0}, false},
		{[]int{1, 1}, true},
		{[]int{1, 1, 0}, false},
		{[]int{1, 1, 1, 1}, false},
		{[]int{3, 3, 1, 1}, false},
		{[]int{2, 1, 1}, true},
		{[]int{0, 2, 2, 2}, false},
		{repeated(12, 1), false},
		{repeated(12, 2), true},
		{append(repeated(11, 1), 11), true},
		{append(repeated(11, 1), 9), false},
		{append(repeated(10, 1), 10, 2), true},
		{append(repeated(11, 2), 0), false},
		{append(repeated(11, 11), 10), false},
	} {
		if together, ok := impl.HangTogether(x.list); !ok || together != x.together {
			t.Error("HangTogether", x.list, together, ok)
		}
	}
}

func TestTreeOfNumbers(t *testing.T) {
	for _, x := range []struct {
		list []int
		tree string
	}{
		{[]int{1, 1}, "2:0-1"},
		{[]int{2, 1, 1}, "3:0-1,0-2"},
		{[]int{1, 1, 2}, "3:0-2,1-2"},
		{[]int{1, 3, 1, 1}, "4:0-1,1-2,1-3"},
		{[]int{1, 2, 3, 1, 1}, "5:0-1,1-2,2-3,2-4"},
		{[]int{2, 2, 2, 1, 1}, "5:0-1,0-3,1-2,2-4"},
		{[]int{1, 1, 1, 2, 2, 3}, "6:0-3,1-4,2-5,3-5,4-5"},
		{append(repeated(11, 1), 11), "12:0-11,1-11,2-11,3-11,4-11,5-11,6-11,7-11,8-11,9-11,10-11"},
		{append(repeated(10, 2), 1, 1), "12:0-1,0-10,1-2,2-3,3-4,4-5,5-6,6-7,7-8,8-9,9-11"},
	} {
		p, ok := impl.TreeOfNumbers(x.list)
		wantParty(t, "TreeOfNumbers", p, ok, x.tree)
	}
	for _, list := range [][]int{{0}, {0, 0}, {1, 0}, {1, 1, 0}, {0, 2, 2}, {1, 1, 1}, {2, 2, 2}, {1, 1, 1, 1}, {3, 3, 0, 0}, {2, 2, 2, 2}, {2, 2, 2, 0}, repeated(12, 1), repeated(12, 2), append(repeated(11, 2), 0), append(repeated(11, 1), 10)} {
		if p, ok := impl.TreeOfNumbers(list); ok || !isZeroParty(p) {
			t.Error("TreeOfNumbers", list, p, ok)
		}
	}
}

func TestExchangePairs(t *testing.T) {
	square := mustParse(t, "5:0-1,0-3,1-2,2-3")
	p, ok := impl.ExchangePairs(mustParse(t, "4:0-1,2-3"), 0, 1, 2, 3)
	wantParty(t, "ExchangePairs", p, ok, "4:0-2,1-3")
	p, ok = impl.ExchangePairs(mustParse(t, "4:0-1,2-3"), 3, 2, 0, 1)
	wantParty(t, "ExchangePairs", p, ok, "4:0-3,1-2")
	p, ok = impl.ExchangePairs(mustParse(t, "12:0-11,5-6"), 11, 0, 6, 5)
	wantParty(t, "ExchangePairs", p, ok, "12:0-5,6-11")
	p, ok = impl.ExchangePairs(square, 0, 1, 2, 3)
	wantParty(t, "ExchangePairs", p, ok, "5:0-2,0-3,1-2,1-3")
	for _, x := range [][4]int{
		{0, 1, 3, 2}, {0, 2, 1, 3}, {0, 1, 2, 4}, {4, 0, 1, 2}, {0, 0, 2, 3}, {0, 1, 0, 1}, {0, 1, 1, 0}, {0, 1, 2, 1}, {0, 1, 2, 2}, {0, 1, 2, 0}, {1, 0, 0, 3}, {0, 0, 0, 0},
		{0, 1, 2, 5}, {5, 1, 2, 3}, {-1, 1, 2, 3}, {0, -1, 2, 3}, {0, 1, -1, 3}, {0, 1, 2, math.MinInt}, {math.MaxInt, 1, 2, 3}, {0, 1, math.MaxInt, math.MinInt},
	} {
		if p, ok := impl.ExchangePairs(square, x[0], x[1], x[2], x[3]); ok || !isZeroParty(p) {
			t.Error("ExchangePairs", x, p, ok)
		}
	}
}

func TestAllExchangesOfSome(t *testing.T) {
	for _, x := range []struct {
		party string
		all   []string
	}{
		{"1:", nil},
		{"3:0-1,0-2,1-2", nil},
		{"4:0-1,0-2,0-3,1-2,1-3,2-3", nil},
		{"4:0-1,2-3", []string{"4:0-2,1-3", "4:0-3,1-2"}},
		{"4:0-3,1-2", []string{"4:0-1,2-3", "4:0-2,1-3"}},
		{"4:0-1,1-2,2-3", []string{"4:0-2,1-2,1-3"}},
		{"5:0-1,1-2,3-4", []string{"5:0-1,1-3,2-4", "5:0-1,1-4,2-3", "5:0-3,1-2,1-4", "5:0-4,1-2,1-3"}},
	} {
		all, ok := impl.AllExchanges(mustParse(t, x.party))
		if !ok || len(all) != len(x.all) {
			t.Error("AllExchanges", x.party, all, ok)
			continue
		}
		for i, p := range all {
			wantParty(t, "AllExchanges of "+x.party, p, ok, x.all[i])
		}
	}
}

func TestExchangesFailForWrongParties(t *testing.T) {
	// Of these just the party itself is wrong: its pairs could be exchanged.
	pairs := []impl.Pair{{A: 0, B: 1}, {A: 2, B: 3}}
	parties := append(wrongParties(), []impl.Party{
		{People: 13, Pairs: pairs},
		{People: math.MaxInt, Pairs: pairs},
		{People: 4, Pairs: []impl.Pair{pairs[1], pairs[0]}},
		{People: 4, Pairs: append(slices.Clone(pairs), impl.Pair{A: 3, B: 1})},
		{People: 4, Pairs: append(slices.Clone(pairs), impl.Pair{A: 4, B: 5})},
		{People: 5, Pairs: append(slices.Clone(pairs), impl.Pair{A: 0, B: 4})},
	}...)
	for _, p := range parties {
		q, ok1 := impl.ExchangePairs(p, 0, 1, 2, 3)
		all, ok2 := impl.AllExchanges(p)
		a, b, ok3 := impl.TwoAlike(p)
		if ok1 || ok2 || ok3 || !isZeroParty(q) || all != nil || a != 0 || b != 0 {
			t.Error(p, q, ok1, all, ok2, a, b, ok3)
		}
	}
}
