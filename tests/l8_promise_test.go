package tests

import (
	"cmp"
	"math"
	"reflect"
	"slices"
	"testing"
	"testing/synctest"

	"loop.example/g01257/impl"
)

// nextOrder puts a list into the order that comes next, lexicographically, and reports whether there is one.
func nextOrder(list []int) bool {
	i := len(list) - 2
	for i >= 0 && list[i] > list[i+1] {
		i--
	}
	if i < 0 {
		return false
	}
	j := len(list) - 1
	for list[j] < list[i] {
		j--
	}
	list[i], list[j] = list[j], list[i]
	slices.Reverse(list[i+1:])
	return true
}

// strangersInRow counts the strangers who sit beside each other, not looking at the last and the first one.
func strangersInRow(table friendTable, seats []int) int {
	strangers := 0
	for i, a := range seats {
		if i > 0 && !table[seats[i-1]][a] {
			strangers++
		}
	}
	return strangers
}

// strangersAround counts those around a table.
func strangersAround(table friendTable, seats []int) int {
	strangers := strangersInRow(table, seats)
	if !table[seats[len(seats)-1]][seats[0]] {
		strangers++
	}
	return strangers
}

// checkSeats holds what is told of the seatings and rows of a party of at most MaxSeated people against all orders of them.
func checkSeats(t *testing.T, p impl.Party) {
	t.Helper()
	table := tableOf(p)
	seating, row := none, none
	seatings, rows := 0, 0
	order := counted(p.People)
	for more := p.People > 0; more; more = nextOrder(order) {
		if strangersInRow(table, order) > 0 {
			continue
		}
		if rows++; rows == 1 {
			row = slices.Clone(order)
		}
		last := order[p.People-1]
		if p.People < 3 || !table[0][last] || order[0] != 0 || order[1] > last {
			continue
		}
		if seatings++; seatings == 1 {
			seating = slices.Clone(order)
		}
	}
	text, _ := impl.PartyText(p)
	seats, ok := impl.FirstSeating(p)
	wantList(t, "FirstSeating of "+text, seats, ok, seating)
	count, ok := impl.CountSeatings(p)
	wantNumber(t, "CountSeatings of "+text, count, ok, seatings)
	seats, ok = impl.FirstRow(p)
	wantList(t, "FirstRow of "+text, seats, ok, row)
	count, ok = impl.CountRows(p)
	wantNumber(t, "CountRows of "+text, count, ok, rows)
}

// TestSeatsOfAllParties tries all parties of few people, and some of up to MaxSeated.
func TestSeatsOfAllParties(t *testing.T) {
	for _, p := range smallParties(5) {
		checkSeats(t, p)
	}
	for n, count := range []int{6: 200, 7: 60, 8: 15, 9: 6} {
		for _, p := range mixedParties(n, count) {
			checkSeats(t, p)
		}
	}
	for _, steps := range [][]int{{1}, {2}, {3}, {1, 3}, {2, 4}} {
		p, _ := impl.CircleParty(9, steps)
		checkSeats(t, p)
	}
}

// checkSeatedSo holds what is told of the seats of a party against its table.
func checkSeatedSo(t *testing.T, p impl.Party, seats []int) {
	t.Helper()
	table := tableOf(p)
	text, _ := impl.PartyText(p)
	is, ok := impl.IsRow(p, seats)
	wantIs(t, "IsRow of "+text, is, ok, p.People > 0 && strangersInRow(table, seats) == 0)
	if p.People < 3 {
		is, ok = impl.IsSeating(p, seats)
		wantIs(t, "IsSeating of "+text, is, ok, false)
		return
	}
	strangers := strangersAround(table, seats)
	is, ok = impl.IsSeating(p, seats)
	wantIs(t, "IsSeating of "+text, is, ok, strangers == 0)
	count, ok := impl.StrangersBeside(p, seats)
	wantNumber(t, "StrangersBeside of "+text, count, ok, strangers)
}

// TestSeatsInAllOrders is the first half of promise 8: seatings, and no others, have friends beside each other.
func TestSeatsInAllOrders(t *testing.T) {
	for _, p := range smallParties(5) {
		for _, seats := range allOrders(p.People) {
			checkSeatedSo(t, p, seats)
		}
	}
	for n := 6; n <= impl.MaxPeople; n++ {
		for _, p := range mixedParties(n, 20) {
			for turn := 1; turn < n; turn++ {
				checkSeatedSo(t, p, namesByTurns(n, turn))
			}
		}
		circle, _ := impl.CircleParty(n, []int{1})
		for turn := 1; turn < n; turn++ {
			checkSeatedSo(t, circle, namesByTurns(n, turn))
		}
	}
}

// TestSeatingsAreToldFromEverybody tells each first seating from whomever and in both directions.
func TestSeatingsAreToldFromEverybody(t *testing.T) {
	for n := 3; n <= impl.MaxSeated; n++ {
		for _, p := range mixedParties(n, 40) {
			seats, ok := impl.FirstSeating(p)
			if !ok {
				continue
			}
			for i := range 2 * n {
				checkSeatedSo(t, p, seats)
				if is, _ := impl.IsSeating(p, seats); !is {
					t.Error("IsSeating", p, seats, "is not")
				}
				seats = append(seats[1:], seats[0])
				if i == n-1 {
					slices.Reverse(seats)
				}
			}
		}
	}
}

// turnedByIndex returns the seats of which those from i to j are told from the last one on.
func turnedByIndex(seats []int, i int, j int) []int {
	turned := slices.Clone(seats)
	for k := i; k <= j; k++ {
		turned[k] = seats[i+j-k]
	}
	return turned
}

// mendedStepByStep tries turns in order, and returns the first seats with fewer strangers, or none.
func mendedStepByStep(table friendTable, seats []int) []int {
	strangers := strangersAround(table, seats)
	for i := range seats {
		for j := i; j < len(seats); j++ {
			if turned := turnedByIndex(seats, i, j); strangersAround(table, turned) < strangers {
				return turned
			}
		}
	}
	return none
}

// checkMending holds mended seats of at least three people against turns that are tried in order, and returns what is left behind all.
func checkMending(t *testing.T, p impl.Party, seats []int) []int {
	t.Helper()
	table := tableOf(p)
	text, _ := impl.PartyText(p)
	left, times := seats, 0
	for once := mendedStepByStep(table, seats); !slices.Equal(once, none); once = mendedStepByStep(table, left) {
		if times == 0 {
			mended, ok := impl.MendSeats(p, seats)
			wantList(t, "MendSeats of "+text, mended, ok, once)
		}
		left = once
		times++
	}
	mended, ok := impl.MendSeats(p, left)
	wantList(t, "MendSeats of "+text, mended, ok, none)
	all, often, ok := impl.MendAll(p, seats)
	wantList(t, "MendAll of "+text, all, ok, left)
	wantNumber(t, "MendAll of "+text, often, ok, times)
	return all
}

// TestMendingOfAllParties tries all parties of few people, and some of more.
func TestMendingOfAllParties(t *testing.T) {
	for n := 3; n <= 4; n++ {
		for _, p := range allParties(n) {
			for _, seats := range allOrders(n) {
				checkMending(t, p, seats)
			}
		}
	}
	for _, p := range allParties(5) {
		checkMending(t, p, counted(5))
	}
	for n := 6; n <= impl.MaxPeople; n++ {
		for _, p := range mixedParties(n, 15) {
			for turn := 1; turn < n; turn += 3 {
				checkMending(t, p, namesByTurns(n, turn))
			}
		}
	}
}

// TestMendingIsTheSameEachTime tries seats with many turns that mend: which of these is found first must not matter.
func TestMendingIsTheSameEachTime(t *testing.T) {
	circle := mustParse(t, circleOfTwelve)
	seats := []int{0, 6, 3, 9, 1, 7, 4, 10, 2, 8, 5, 11}
	for range 200 {
		checkMending(t, circle, seats)
	}
}

// TestTurnSeatsByIndex turns all parts of seats, which turned once more are as before.
func TestTurnSeatsByIndex(t *testing.T) {
	for n := 1; n <= impl.MaxPeople; n++ {
		for turn := 1; turn < n; turn++ {
			seats := namesByTurns(n, turn)
			for i := range n {
				for j := i; j < n; j++ {
					turned, ok := impl.TurnSeats(seats, i, j)
					wantList(t, "TurnSeats", turned, ok, turnedByIndex(seats, i, j))
					back, ok := impl.TurnSeats(turned, i, j)
					wantList(t, "TurnSeats twice", back, ok, seats)
				}
			}
		}
	}
}

// checkEnough holds parties with enough friends against their table, and reports whether there are enough for all strangers together.
func checkEnough(t *testing.T, p impl.Party) bool {
	t.Helper()
	table := tableOf(p)
	text, _ := impl.PartyText(p)
	numbers := make([]int, p.People)
	for a := range numbers {
		for _, are := range table[a] {
			if are {
				numbers[a]++
			}
		}
	}
	enough, together := p.People > 2, p.People > 2
	for a, number := range numbers {
		enough = enough && number+number >= p.People
		for b := range numbers {
			together = together && (a == b || table[a][b] || number+numbers[b] >= p.People)
		}
	}
	is, ok := impl.EnoughFriends(p)
	wantIs(t, "EnoughFriends of "+text, is, ok, enough)
	is, ok = impl.EnoughTogether(p)
	wantIs(t, "EnoughTogether of "+text, is, ok, together)
	if enough && !together {
		t.Error(text, "has enough friends, but not together")
	}
	return together
}

// checkSeatingByMending mends seats of a party with enough friends until nothing is left to mend: it is a seating then.
func checkSeatingByMending(t *testing.T, p impl.Party, seats []int) {
	t.Helper()
	mended, _, ok := impl.MendAll(p, seats)
	is, fine := impl.IsSeating(p, mended)
	if !ok || !fine || !is || strangersAround(tableOf(p), mended) > 0 {
		t.Error("MendAll", p, seats, mended, ok, "is no seating")
	}
	if p.People > impl.MaxSeated {
		return
	}
	if first, ok := impl.FirstSeating(p); !ok || strangersAround(tableOf(p), first) > 0 {
		t.Error("FirstSeating", p, first, ok)
	}
}

// TestEnoughFriendsHaveSeatings is the other half of promise 8, for all parties of at most six people and some of more.
func TestEnoughFriendsHaveSeatings(t *testing.T) {
	found := 0
	for _, p := range smallParties(6) {
		// Other seats are the same party with other names, which is tried, too.
		if checkEnough(t, p) {
			checkSeatingByMending(t, p, counted(p.People))
			found++
		}
	}
	if found < 1000 {
		t.Error("just", found, "parties have enough friends")
	}
	for n := 7; n <= impl.MaxPeople; n++ {
		found := 0
		for _, p := range mixedParties(n, 60) {
			if checkEnough(t, p) {
				for turn := 1; turn < n; turn += 2 {
					checkSeatingByMending(t, p, namesByTurns(n, turn))
				}
				found++
			}
		}
		if found == 0 {
			t.Error("no party of", n, "people has enough friends")
		}
	}
}

// isSeatedSomehow reports whether a party of at most MaxSeated people has a seating, and, of more people, whether mending comes to one.
func isSeatedSomehow(p impl.Party) bool {
	if p.People <= impl.MaxSeated {
		_, ok := impl.FirstSeating(p)
		return ok
	}
	mended, _, _ := impl.MendAll(p, counted(p.People))
	is, _ := impl.IsSeating(p, mended)
	return is
}

// TestJustEnoughFriends tries parties that have just enough friends, and those that have one too few and no seating.
func TestJustEnoughFriends(t *testing.T) {
	for n := 3; n <= impl.MaxPeople; n++ {
		// Those of the one half are friends of all of the other one.
		halves, _ := impl.PartsParty([]int{n / 2, n - n/2})
		if enough := checkEnough(t, halves); enough != (n%2 == 0) || isSeatedSomehow(halves) != enough {
			t.Error(halves, "has enough friends:", enough)
		}
		// Person 0 is the only one whom two sets of friends have in common.
		table := friendTable{}
		for a := range n {
			for b := range n {
				table[a][b] = a != b && (a == 0 || b == 0 || (a <= n/2) == (b <= n/2))
			}
		}
		p := partyOfTable(n, table)
		if enough := checkEnough(t, p); n > 3 && (enough || isSeatedSomehow(p)) {
			t.Error(p, "has enough friends:", enough)
		}
		// All are friends but the last person, who has two of them as friends, and then just one.
		full, _ := impl.FullParty(n)
		for a := 2; n > 4 && a < n-1; a++ {
			full, _ = impl.DropPair(full, a, n-1)
		}
		if n > 4 && (!checkEnough(t, full) || !isSeatedSomehow(full)) {
			t.Error(full, "has too few friends")
		}
		full, _ = impl.DropPair(full, 1, n-1)
		if n > 4 && (checkEnough(t, full) || isSeatedSomehow(full)) {
			t.Error(full, "has enough friends")
		}
	}
}

// tablesByCodes returns all ways to have friends at different tables, the first person of each part at the table 0.
func tablesByCodes(p impl.Party) [][]int {
	var list [][]int
	for code := range 1 << p.People {
		tables := make([]int, p.People)
		for a := range tables {
			tables[a] = code >> a & 1
		}
		apart := true
		for _, x := range p.Pairs {
			apart = apart && tables[x.A] != tables[x.B]
		}
		for _, part := range partsBySteps(p) {
			apart = apart && tables[part[0]] == 0
		}
		if apart {
			list = append(list, tables)
		}
	}
	return list
}

// checkTables holds tables of friends apart, and of strangers apart in the other party, against all ways.
func checkTables(t *testing.T, p impl.Party) bool {
	t.Helper()
	want := none
	ways := tablesByCodes(p)
	if len(ways) > 1 {
		t.Fatal(p, ways)
	}
	if len(ways) == 1 {
		want = ways[0]
	}
	text, _ := impl.PartyText(p)
	tables, ok := impl.TablesApart(p)
	wantList(t, "TablesApart of "+text, tables, ok, want)
	other, _ := impl.OtherParty(p)
	tables, ok = impl.TwoTables(other)
	wantList(t, "TwoTables of all but "+text, tables, ok, want)
	return ok
}

// TestTablesOfAllParties tries all parties of few people, and of more people some that mostly are not apart, and some that are.
func TestTablesOfAllParties(t *testing.T) {
	for _, p := range smallParties(5) {
		checkTables(t, p)
	}
	for n := 6; n <= impl.MaxPeople; n++ {
		for i, p := range mixedParties(n, 8) {
			checkTables(t, p)
			// Without pairs of two people at the same table, as the bits of a number tell them, all are apart.
			number := 0x2b5 * (i + 1)
			p.Pairs = slices.DeleteFunc(p.Pairs, func(x impl.Pair) bool { return (number>>x.A^number>>x.B)&1 == 0 })
			if !checkTables(t, p) {
				t.Error("TablesApart", p, "fails")
			}
		}
	}
	for n := 3; n <= impl.MaxPeople; n++ {
		circle, _ := impl.CircleParty(n, []int{1})
		if apart := checkTables(t, circle); apart != (n%2 == 0) {
			t.Error("TablesApart", circle, apart)
		}
	}
}

// setsOfPairs returns all sets of some pairs, in their order, with each person in at most one.
func setsOfPairs(pairs []impl.Pair) [][]impl.Pair {
	if len(pairs) == 0 {
		return [][]impl.Pair{nil}
	}
	x := pairs[0]
	sets := setsOfPairs(pairs[1:])
	for _, set := range sets {
		joins := true
		for _, y := range set {
			joins = joins && x.A != y.A && x.A != y.B && x.B != y.A && x.B != y.B
		}
		if joins {
			sets = append(sets, append([]impl.Pair{x}, set...))
		}
	}
	return sets
}

// firstSet returns the first one of some sets of pairs.
func firstSet(sets [][]impl.Pair) []impl.Pair {
	return slices.MinFunc(sets, func(x []impl.Pair, y []impl.Pair) int {
		return slices.CompareFunc(x, y, func(v impl.Pair, w impl.Pair) int {
			return cmp.Or(cmp.Compare(v.A, w.A), cmp.Compare(v.B, w.B))
		})
	})
}

// checkPairings holds pairings, and the most people in pairs, against all sets of pairs.
func checkPairings(t *testing.T, p impl.Party) {
	t.Helper()
	var pairings, greatest [][]impl.Pair
	for _, set := range setsOfPairs(p.Pairs) {
		if 2*len(set) == p.People {
			pairings = append(pairings, set)
		}
		if len(greatest) > 0 && len(set) > len(greatest[0]) {
			greatest = nil
		}
		if len(greatest) == 0 || len(set) == len(greatest[0]) {
			greatest = append(greatest, set)
		}
	}
	if count, ok := impl.CountPairings(p); !ok || count != len(pairings) {
		t.Error("CountPairings", p, count, ok, "not", len(pairings))
	}
	first, ok := impl.FirstPairing(p)
	if ok != (len(pairings) > 0) || !ok && first != nil || ok && !slices.Equal(first, firstSet(pairings)) {
		t.Error("FirstPairing", p, first, ok)
	}
	if most, ok := impl.MostInPairs(p); !ok || !slices.Equal(most, firstSet(greatest)) {
		t.Error("MostInPairs", p, most, ok, "not", firstSet(greatest))
	}
}

// TestPairingsOfAllParties tries all parties of few people, and some of more.
func TestPairingsOfAllParties(t *testing.T) {
	for _, p := range smallParties(5) {
		checkPairings(t, p)
	}
	for i, p := range allParties(6) {
		if i%16 == 0 {
			checkPairings(t, p)
		}
	}
	for n, count := range []int{6: 0, 7: 60, 8: 60, 9: 40, 10: 20, 11: 8, 12: 6} {
		for _, p := range mixedParties(n, count) {
			checkPairings(t, p)
		}
		for _, steps := range [][]int{{1}, {2}, {3}, {2, 3}} {
			if p, ok := impl.CircleParty(n, steps); ok {
				checkPairings(t, p)
			}
		}
	}
	// Sets of friends, of some of which not all are in pairs, as their numbers are odd.
	for _, sizes := range [][]int{{3, 3, 5}, {1, 3, 7}, {5, 5, 1}, {2, 3, 3}, {4, 4, 4}, {11}, {1, 11}} {
		parts, _ := impl.PartsParty(sizes)
		p, _ := impl.OtherParty(parts)
		checkPairings(t, p)
		checkPairings(t, parts)
	}
}

// TestNoSeatsLeaveWork checks that nobody still waits to tell seats or turns when a call has returned, whether all seats were wanted or not.
func TestNoSeatsLeaveWork(t *testing.T) {
	synctest.Test(t, func(t *testing.T) {
		for _, p := range append(someParties(), wrongParties()...) {
			if p.People > 7 {
				continue
			}
			impl.FirstSeating(p)
			impl.CountSeatings(p)
			impl.FirstRow(p)
			impl.CountRows(p)
		}
		for _, p := range append(someParties(), wrongParties()...) {
			seats := counted(min(max(p.People, 0), 12))
			impl.MendSeats(p, seats)
			impl.MendAll(p, seats)
		}
	})
}

// tablesValues returns the values with which the functions of chapter 8 are tried: right ones and others.
func tablesValues(t *testing.T) map[reflect.Type][]reflect.Value {
	values := map[reflect.Type][]reflect.Value{}
	for _, s := range []string{"0:", "1:", "2:", "2:0-1", "3:0-1,0-2,1-2", "3:0-2", squareOfFour, "4:0-1,2-3", "5:0-1,0-4,1-2,2-3,3-4", "5:0-2,0-3,0-4,1-2,1-3,1-4", "9:0-1,1-2", circleOfTwelve, "12:"} {
		addValues(values, mustParse(t, s))
	}
	six, _ := impl.FullParty(6)
	twelve, _ := impl.FullParty(12)
	addValues(values, six, twelve)
	addValues(values, mixedParties(9, 2)...)
	addValues(values, mixedParties(10, 2)...)
	addValues(values, wrongParties()...)
	addValues(values, math.MinInt, -1, 0, 1, 2, 3, 8, 11, 12, 13, math.MaxInt)
	addValues(values, nil, []int{}, []int{0, 1, 2}, []int{0, 2, 1, 3}, []int{3, 0, 1, 4, 2}, []int{7, 11, 4}, []int{0, 2, 4, 6, 8, 1, 3, 5, 7}, []int{0, 6, 3, 9, 1, 7, 4, 10, 2, 8, 5, 11})
	for n := 1; n <= 13; n++ {
		addValues(values, counted(n))
	}
	addValues(values, []int{0, 0, 1}, []int{0, 1, 3}, []int{0, 1, -1}, []int{math.MinInt, math.MaxInt}, repeated(100, 1))
	return values
}

func TestTablesCallsKeepTheirArguments(t *testing.T) {
	values := tablesValues(t)
	for _, f := range []struct {
		name string
		call any
	}{
		{"IsSeating", impl.IsSeating},
		{"FirstSeating", impl.FirstSeating},
		{"CountSeatings", impl.CountSeatings},
		{"IsRow", impl.IsRow},
		{"FirstRow", impl.FirstRow},
		{"CountRows", impl.CountRows},
		{"StrangersBeside", impl.StrangersBeside},
		{"TurnSeats", impl.TurnSeats},
		{"MendSeats", impl.MendSeats},
		{"MendAll", impl.MendAll},
		{"EnoughFriends", impl.EnoughFriends},
		{"EnoughTogether", impl.EnoughTogether},
		{"TwoTables", impl.TwoTables},
		{"TablesApart", impl.TablesApart},
		{"FirstPairing", impl.FirstPairing},
		{"CountPairings", impl.CountPairings},
		{"MostInPairs", impl.MostInPairs},
	} {
		sweep(t, f.name, f.call, values)
	}
}
