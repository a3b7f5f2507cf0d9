package tests

import (
	"math"
	"reflect"
	"slices"
	"testing"

	"loop.example/g01257/impl"
)

func hasNumbers(p impl.Party, list []int) bool {
	numbers, ok := impl.NumbersOfFriends(p)
	return ok && slices.Equal(numbers, list)
}

// numbersKey is numbers of friends as a key of a map.
type numbersKey [impl.MaxPeople]int

func keyOfNumbers(list []int) numbersKey {
	var key numbersKey
	copy(key[:], list)
	return key
}

// partiesByNumbers returns all parties of n people by their numbers.
func partiesByNumbers(n int) map[numbersKey][]impl.Party {
	found := map[numbersKey][]impl.Party{}
	for _, p := range allParties(n) {
		var numbers numbersKey
		for _, x := range p.Pairs {
			numbers[x.A]++
			numbers[x.B]++
		}
		found[numbers] = append(found[numbers], p)
	}
	return found
}

// TestNumbersOfAllParties holds what is told of numbers against all parties that have them.
func TestNumbersOfAllParties(t *testing.T) {
	for n := 0; n <= 6; n++ {
		found := partiesByNumbers(n)
		falling := 0
		for _, list := range allLists(n, 0, n-1) {
			parties := found[keyOfNumbers(list)]
			if len(parties) > 0 && isFalling(list) {
				falling++
			}
			checkNumbers(t, list, parties)
		}
		if count, ok := impl.CountNumbers(n); !ok || count != falling {
			t.Error("CountNumbers", n, count, ok, "not", falling)
		}
	}
}

// checkNumbers checks what is told of numbers, of which those are all parties.
func checkNumbers(t *testing.T, list []int, parties []impl.Party) {
	t.Helper()
	can, ok := impl.CanBe(list)
	count, fine := impl.CountOfNumbers(list)
	only, clear := impl.IsOnly(list)
	if !ok || can != (len(parties) > 0) || !fine || count != len(parties) || !clear || only != (count == 1) {
		t.Error(list, "CanBe", can, ok, "CountOfNumbers", count, fine, "IsOnly", only, clear)
	}
	made, ok := impl.PartyOfNumbers(list)
	first, fine := impl.FirstOfNumbers(list)
	if len(parties) == 0 {
		if ok || fine || !isZeroParty(made) || !isZeroParty(first) {
			t.Error(list, "PartyOfNumbers", made, ok, "FirstOfNumbers", first, fine)
		}
	} else if least := slices.MinFunc(parties, compareParties); !ok || !hasNumbers(made, list) || !fine || !sameParty(first, least) {
		t.Error(list, "PartyOfNumbers", made, ok, "FirstOfNumbers", first, fine, "not", least)
	}
	isOne := slices.ContainsFunc(parties, func(p impl.Party) bool { return len(partsBySteps(p)) == 1 })
	if together, ok := impl.HangTogether(list); ok != (len(list) > 0) || together != isOne {
		t.Error("HangTogether", list, together, ok)
	}
	checkTree(t, list)
}

func compareParties(p impl.Party, q impl.Party) int {
	switch {
	case comesBefore(p, q):
		return -1
	case comesBefore(q, p):
		return 1
	}
	return 0
}

// TestCountsOfSevenPeople counts all parties of 7 people once more, by their numbers in falling order.
func TestCountsOfSevenPeople(t *testing.T) {
	all, ok := impl.AllNumbers(7)
	sum := 0
	for _, list := range all {
		count, fine := impl.CountOfNumbers(list)
		if !ok || !fine || count == 0 {
			t.Error("CountOfNumbers", list, count, fine)
		}
		turned := slices.Clone(list)
		slices.Reverse(turned)
		if again, fine := impl.CountOfNumbers(turned); !fine || again != count {
			t.Error("CountOfNumbers", turned, again, fine, "not", count)
		}
		sum += count * ordersOf(list)
	}
	if sum != 1<<21 {
		t.Error("parties of 7 people:", sum)
	}
}

// ordersOf returns in how many orders a list can be written.
func ordersOf(list []int) int {
	orders := 1
	times := map[int]int{}
	for i, number := range list {
		times[number]++
		orders = orders * (i + 1) / times[number]
	}
	return orders
}

// partyStepByStep makes PartyOfNumbers as the specification tells, one friend after the other.
func partyStepByStep(list []int) impl.Party {
	left := slices.Clone(list)
	treated := make([]bool, len(list))
	greatest := func(isOut func(int) bool) int {
		best := -1
		for a, number := range left {
			if !isOut(a) && (best < 0 || number > left[best]) {
				best = a
			}
		}
		return best
	}
	var table friendTable
	for range list {
		a := greatest(func(b int) bool { return treated[b] })
		treated[a] = true
		chosen := make([]bool, len(list))
		for range left[a] {
			chosen[greatest(func(b int) bool { return treated[b] || chosen[b] })] = true
		}
		for b, is := range chosen {
			if is {
				left[b]--
				table[a][b], table[b][a] = true, true
			}
		}
	}
	return partyOfTable(len(list), table)
}

func TestPartyOfNumbersIsMadeSo(t *testing.T) {
	for _, p := range append(someParties(), allParties(5)...) {
		list, _ := impl.NumbersOfFriends(p)
		made, ok := impl.PartyOfNumbers(list)
		if !ok || !hasNumbers(made, list) || !impl.IsParty(made) {
			t.Error("PartyOfNumbers", list, made, ok)
		}
		if want := partyStepByStep(list); !sameParty(made, want) {
			t.Error("PartyOfNumbers", list, made, "not", want)
		}
	}
	for _, x := range []struct {
		list  []int
		party string
	}{
		{[]int{1, 1, 1, 1}, "4:0-1,2-3"},
		{[]int{2, 2, 2, 2}, "4:0-1,0-2,1-3,2-3"},
		{[]int{1, 2, 2, 1}, "4:0-1,1-2,2-3"},
		{[]int{0, 1, 0, 1}, "4:1-3"},
		{[]int{2, 2, 2, 2, 2}, "5:0-1,0-2,1-3,2-4,3-4"},
	} {
		p, ok := impl.PartyOfNumbers(x.list)
		wantParty(t, "PartyOfNumbers", p, ok, x.party)
	}
}

// checkTree holds TreeOfNumbers against a tree made as the specification tells.
func checkTree(t *testing.T, list []int) {
	t.Helper()
	sum := 0
	for _, number := range list {
		sum += number
	}
	p, ok := impl.TreeOfNumbers(list)
	if len(list) < 2 || slices.Contains(list, 0) || sum != 2*(len(list)-1) {
		if ok || !isZeroParty(p) {
			t.Error("TreeOfNumbers", list, p, ok)
		}
		return
	}
	var table friendTable
	left := slices.Clone(list)
	for !isZero(left) {
		a := slices.Index(left, 1)
		b := slices.IndexFunc(left, func(number int) bool { return number > 1 })
		if b < 0 {
			b = a + 1 + slices.Index(left[a+1:], 1)
		}
		left[a]--
		left[b]--
		table[a][b], table[b][a] = true, true
	}
	want := partyOfTable(len(list), table)
	if !ok || !sameParty(p, want) || !hasNumbers(p, list) || len(partsBySteps(p)) != 1 {
		t.Error("TreeOfNumbers", list, p, ok, "not", want)
	}
}

func TestTreesOfManyPeople(t *testing.T) {
	for n := 7; n <= impl.MaxPeople; n++ {
		z := uint64(n)
		for range 50 {
			list := repeated(n, 1)
			for range n - 2 {
				z = z*6364136223846793005 + 1442695040888963407
				list[z>>33%uint64(n)]++
			}
			checkTree(t, list)
		}
	}
}

// exchangedByTable returns what ExchangePairs should.
func exchangedByTable(p impl.Party, a int, b int, c int, d int) (impl.Party, bool) {
	table := tableOf(p)
	if a == b || a == c || a == d || b == c || b == d || c == d || !table[a][b] || !table[c][d] || table[a][c] || table[b][d] {
		return impl.Party{}, false
	}
	table[a][b], table[b][a], table[c][d], table[d][c] = false, false, false, false
	table[a][c], table[c][a], table[b][d], table[d][b] = true, true, true, true
	return partyOfTable(p.People, table), true
}

// checkExchanges holds ExchangePairs of all people, and AllExchanges, against tables.
func checkExchanges(t *testing.T, p impl.Party) {
	t.Helper()
	numbers, _ := impl.NumbersOfFriends(p)
	var made []impl.Party
	n := p.People
	for k := range n * n * n * n {
		a, b, c, d := k/(n*n*n), k/(n*n)%n, k/n%n, k%n
		want, there := exchangedByTable(p, a, b, c, d)
		q, ok := impl.ExchangePairs(p, a, b, c, d)
		if ok != there || !sameParty(q, want) || ok && !hasNumbers(q, numbers) {
			t.Error("ExchangePairs", p, a, b, c, d, q, ok)
		}
		if there {
			made = append(made, want)
		}
	}
	slices.SortFunc(made, compareParties)
	made = slices.CompactFunc(made, sameParty)
	if all, ok := impl.AllExchanges(p); !ok || !slices.EqualFunc(all, made, sameParty) {
		t.Error("AllExchanges", p, all, ok, "not", made)
	}
}

func TestExchangedPairsKeepNumbers(t *testing.T) {
	for _, p := range smallParties(5) {
		checkExchanges(t, p)
	}
	for n := 6; n <= impl.MaxPeople; n++ {
		for _, p := range mixedParties(n, 3) {
			checkExchanges(t, p)
		}
	}
}

// TestExchangesReachAll goes from one party with some numbers by exchanges to all that have them.
func TestExchangesReachAll(t *testing.T) {
	all, _ := impl.AllNumbers(6)
	for _, list := range all {
		p, ok := impl.PartyOfNumbers(list)
		count, fine := impl.CountOfNumbers(list)
		if !ok || !fine {
			t.Fatal("PartyOfNumbers", list, p, ok, count, fine)
		}
		reached := map[string]bool{keyOf(p.Pairs): true}
		for waiting := []impl.Party{p}; len(waiting) > 0; waiting = waiting[1:] {
			exchanges, _ := impl.AllExchanges(waiting[0])
			for _, q := range exchanges {
				if !reached[keyOf(q.Pairs)] {
					reached[keyOf(q.Pairs)] = true
					waiting = append(waiting, q)
				}
			}
		}
		if len(reached) != count {
			t.Error("parties with", list, "are", count, "but exchanges reach", len(reached))
		}
	}
}

// numbersValues returns the values with which the functions of chapter 2 are tried: right ones and others.
func numbersValues(t *testing.T) map[reflect.Type][]reflect.Value {
	values := map[reflect.Type][]reflect.Value{}
	for _, s := range []string{"0:", "1:", "2:0-1", "4:0-1,1-2,2-3", "4:0-3,1-2", "5:0-1,1-2,3-4", "7:0-1,0-6,3-4,5-6", "12:0-11,1-10,2-9,3-8,4-7,5-6"} {
		addValues(values, mustParse(t, s))
	}
	full, _ := impl.FullParty(12)
	addValues(values, full)
	addValues(values, mixedParties(12, 2)...)
	addValues(values, wrongParties()...)
	addValues(values, extremes...)
	addValues(values, nil, []int{}, []int{0}, []int{1, 1}, []int{1, 0}, []int{0, 2, 2}, []int{1, 2, 1}, []int{3, 3, 1, 1}, []int{3, 1, 2, 2, 2}, []int{0, 1, 2, 3, 4, 5, 6})
	addValues(values, repeated(7, 4), repeated(8, 2), repeated(12, 5), repeated(12, 11), append(repeated(11, 1), 11), append(repeated(6, 1), 6))
	addValues(values, wrongNumbers()...)
	return values
}

func TestNumbersCallsKeepTheirArguments(t *testing.T) {
	values := numbersValues(t)
	for _, f := range []struct {
		name string
		call any
	}{
		{"IsNumbers", impl.IsNumbers},
		{"CanBe", impl.CanBe},
		{"FailsAt", impl.FailsAt},
		{"SortNumbers", impl.SortNumbers},
		{"PartyOfNumbers", impl.PartyOfNumbers},
		{"FirstOfNumbers", impl.FirstOfNumbers},
		{"CountOfNumbers", impl.CountOfNumbers},
		{"AllNumbers", impl.AllNumbers},
		{"CountNumbers", impl.CountNumbers},
		{"OtherNumbers", impl.OtherNumbers},
		{"AllExchanges", impl.AllExchanges},
		{"TwoAlike", impl.TwoAlike},
		{"HangTogether", impl.HangTogether},
		{"TreeOfNumbers", impl.TreeOfNumbers},
		{"IsOnly", impl.IsOnly},
	} {
		sweep(t, f.name, f.call, values)
	}
	// All people in all places, but just a few parties.
	party := reflect.TypeFor[impl.Party]()
	few := map[reflect.Type][]reflect.Value{party: append(slices.Clone(values[party][2:7]), values[party][15:20]...)}
	addValues(few, math.MinInt, -1, 0, 1, 2, 3, 4, math.MaxInt)
	sweep(t, "ExchangePairs", impl.ExchangePairs, few)
}
