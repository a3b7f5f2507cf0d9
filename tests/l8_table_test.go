package tests

import (
	"math"
	"slices"
	"testing"

	"loop.example/g01257/impl"
)

// squareOfFour is the party of the chapter's example: four people around a table.
const squareOfFour = "4:0-1,0-3,1-2,2-3"

func TestTablesExample(t *testing.T) {
	p := mustParse(t, squareOfFour)
	if seats, ok := impl.FirstSeating(p); !ok || !slices.Equal(seats, []int{0, 1, 2, 3}) {
		t.Error("FirstSeating", seats, ok)
	}
	if count, ok := impl.CountSeatings(p); !ok || count != 1 {
		t.Error("CountSeatings", count, ok)
	}
	if count, ok := impl.CountRows(p); !ok || count != 8 {
		t.Error("CountRows", count, ok)
	}
	if count, ok := impl.CountPairings(p); !ok || count != 2 {
		t.Error("CountPairings", count, ok)
	}
	if pairs, ok := impl.FirstPairing(p); !ok || !slices.Equal(pairs, []impl.Pair{{A: 0, B: 1}, {A: 2, B: 3}}) {
		t.Error("FirstPairing", pairs, ok)
	}
	if count, ok := impl.StrangersBeside(p, []int{0, 2, 1, 3}); !ok || count != 2 {
		t.Error("StrangersBeside", count, ok)
	}
	if seats, ok := impl.TurnSeats([]int{0, 2, 1, 3}, 1, 2); !ok || !slices.Equal(seats, []int{0, 1, 2, 3}) {
		t.Error("TurnSeats", seats, ok)
	}
	if seats, ok := impl.MendSeats(p, []int{0, 2, 1, 3}); !ok || !slices.Equal(seats, []int{0, 1, 2, 3}) {
		t.Error("MendSeats", seats, ok)
	}
	if tables, ok := impl.TablesApart(p); !ok || !slices.Equal(tables, []int{0, 1, 0, 1}) {
		t.Error("TablesApart", tables, ok)
	}
}

func TestTablesConstants(t *testing.T) {
	if impl.MaxSeated != 9 {
		t.Error("MaxSeated", impl.MaxSeated)
	}
}

// none stands for a list that there is not, where an empty one may be.
var none = []int{-1}

// tablesTold is what chapter 8 tells of a whole party. Pairs are told one behind the other.
type tablesTold struct {
	party    string
	seating  []int
	seatings int
	row      []int
	rows     int
	pairing  []int
	pairings int
	most     []int
	two      []int
	apart    []int
	enough   bool
	together bool
}

// manyTablesTold tells parties of nobody, of fewer than three people, without pairs and with all, in one part and in several.
func manyTablesTold() []tablesTold {
	return []tablesTold{
		{"0:", none, 0, none, 0, nil, 1, nil, nil, nil, false, false},
		{"1:", none, 0, []int{0}, 1, none, 0, nil, []int{0}, []int{0}, false, false},
		{"2:", none, 0, none, 0, none, 0, nil, []int{0, 1}, []int{0, 0}, false, false},
		{"2:0-1", none, 0, []int{0, 1}, 2, []int{0, 1}, 1, []int{0, 1}, []int{0, 0}, []int{0, 1}, false, false},
		{"3:", none, 0, none, 0, none, 0, nil, none, []int{0, 0, 0}, false, false},
		{"3:1-2", none, 0, none, 0, none, 0, []int{1, 2}, []int{0, 1, 1}, []int{0, 0, 1}, false, false},
		{"3:0-2,1-2", none, 0, []int{0, 2, 1}, 2, none, 0, []int{0, 2}, []int{0, 1, 0}, []int{0, 0, 1}, false, false},
		{"3:0-1,0-2,1-2", []int{0, 1, 2}, 1, []int{0, 1, 2}, 6, none, 0, []int{0, 1}, []int{0, 0, 0}, none, true, true},
		{"4:0-1,2-3", none, 0, none, 0, []int{0, 1, 2, 3}, 1, []int{0, 1, 2, 3}, []int{0, 0, 1, 1}, []int{0, 1, 0, 1}, false, false},
		// A star, in which nobody but 0 has a place between two friends.
		{"4:0-1,0-2,0-3", none, 0, none, 0, none, 0, []int{0, 1}, none, []int{0, 1, 1, 1}, false, false},
		// The first pair is in no pairing.
		{"4:0-1,0-2,1-3", none, 0, []int{2, 0, 1, 3}, 2, []int{0, 2, 1, 3}, 1, []int{0, 2, 1, 3}, []int{0, 1, 0, 1}, []int{0, 1, 1, 0}, false, false},
		{squareOfFour, []int{0, 1, 2, 3}, 1, []int{0, 1, 2, 3}, 8, []int{0, 1, 2, 3}, 2, []int{0, 1, 2, 3}, []int{0, 0, 1, 1}, []int{0, 1, 0, 1}, true, true},
		// The same square, in which 1 sits opposite.
		{"4:0-2,0-3,1-2,1-3", []int{0, 2, 1, 3}, 1, []int{0, 2, 1, 3}, 8, []int{0, 2, 1, 3}, 2, []int{0, 2, 1, 3}, []int{0, 1, 0, 1}, []int{0, 0, 1, 1}, true, true},
		{"4:0-1,0-2,0-3,1-2,1-3,2-3", []int{0, 1, 2, 3}, 3, []int{0, 1, 2, 3}, 24, []int{0, 1, 2, 3}, 3, []int{0, 1, 2, 3}, []int{0, 0, 0, 0}, none, true, true},
		// A round of five has a seating without enough friends.
		{"5:0-1,0-4,1-2,2-3,3-4", []int{0, 1, 2, 3, 4}, 1, []int{0, 1, 2, 3, 4}, 10, none, 0, []int{0, 1, 2, 3}, none, none, false, false},
		{"5:0-2,0-3,1-3,1-4,2-4", []int{0, 2, 4, 1, 3}, 1, []int{0, 2, 4, 1, 3}, 10, none, 0, []int{0, 2, 1, 3}, none, none, false, false},
		{"5:0-1,0-2,1-2,3-4", none, 0, none, 0, none, 0, []int{0, 1, 3, 4}, []int{0, 0, 0, 1, 1}, none, false, false},
		// Two and three at tables apart.
		{"5:0-2,0-3,0-4,1-2,1-3,1-4", none, 0, []int{2, 0, 3, 1, 4}, 12, none, 0, []int{0, 2, 1, 3}, none, []int{0, 0, 1, 1, 1}, false, false},
		// 0 and 1 have one friend too few together.
		{"5:0-2,0-3,1-3,1-4,2-3,2-4,3-4", []int{0, 2, 4, 1, 3}, 1, []int{0, 2, 3, 1, 4}, 20, none, 0, []int{0, 2, 1, 3}, []int{0, 1, 0, 0, 1}, none, false, false},
		// Strangers have enough friends together, but 0 has fewer than half.
		{"5:0-2,0-3,1-2,1-3,1-4,2-3,2-4,3-4", []int{0, 2, 1, 4, 3}, 2, []int{0, 2, 1, 3, 4}, 36, none, 0, []int{0, 2, 1, 3}, []int{0, 1, 0, 0, 1}, none, false, true},
		// Two threes joined by one pair.
		{"6:0-1,0-2,0-3,1-2,3-4,3-5,4-5", none, 0, []int{1, 2, 0, 3, 4, 5}, 8, []int{0, 3, 1, 2, 4, 5}, 1, []int{0, 3, 1, 2, 4, 5}, []int{0, 0, 0, 1, 1, 1}, none, false, false},
		// Three and three at tables apart.
		{"6:0-3,0-4,0-5,1-3,1-4,1-5,2-3,2-4,2-5", []int{0, 3, 1, 4, 2, 5}, 6, []int{0, 3, 1, 4, 2, 5}, 72, []int{0, 3, 1, 4, 2, 5}, 6, []int{0, 3, 1, 4, 2, 5}, none, []int{0, 0, 0, 1, 1, 1}, true, true},
		// Three parts, one of them one person.
		{"6:0-4,1-3,1-5", none, 0, none, 0, none, 0, []int{0, 4, 1, 3}, none, []int{0, 0, 0, 1, 1, 1}, false, false},
	}
}

// pairsOfList puts numbers into pairs, and tells whether there are to be any.
func pairsOfList(list []int) ([]impl.Pair, bool) {
	if slices.Equal(list, none) {
		return nil, false
	}
	return callsOf(list...), true
}

func wantList(t *testing.T, what string, list []int, ok bool, want []int) {
	t.Helper()
	if slices.Equal(want, none) {
		if ok || len(list) != 0 {
			t.Error(what, list, ok, "not failed")
		}
		return
	}
	if !ok || !slices.Equal(list, want) {
		t.Error(what, list, ok, "not", want)
	}
}

func wantPairs(t *testing.T, what string, pairs []impl.Pair, ok bool, list []int) {
	t.Helper()
	want, there := pairsOfList(list)
	if ok != there || !slices.Equal(pairs, want) {
		t.Error(what, pairs, ok, "not", want, there)
	}
}

func wantIs(t *testing.T, what string, is bool, ok bool, want bool) {
	t.Helper()
	if !ok || is != want {
		t.Error(what, is, ok, "not", want)
	}
}

func TestTablesTold(t *testing.T) {
	for _, x := range manyTablesTold() {
		p := mustParse(t, x.party)
		seats, ok := impl.FirstSeating(p)
		wantList(t, "FirstSeating of "+x.party, seats, ok, x.seating)
		count, ok := impl.CountSeatings(p)
		wantNumber(t, "CountSeatings of "+x.party, count, ok, x.seatings)
		seats, ok = impl.FirstRow(p)
		wantList(t, "FirstRow of "+x.party, seats, ok, x.row)
		count, ok = impl.CountRows(p)
		wantNumber(t, "CountRows of "+x.party, count, ok, x.rows)
		pairs, ok := impl.FirstPairing(p)
		wantPairs(t, "FirstPairing of "+x.party, pairs, ok, x.pairing)
		count, ok = impl.CountPairings(p)
		wantNumber(t, "CountPairings of "+x.party, count, ok, x.pairings)
		pairs, ok = impl.MostInPairs(p)
		wantPairs(t, "MostInPairs of "+x.party, pairs, ok, x.most)
		tables, ok := impl.TwoTables(p)
		wantList(t, "TwoTables of "+x.party, tables, ok, x.two)
		tables, ok = impl.TablesApart(p)
		wantList(t, "TablesApart of "+x.party, tables, ok, x.apart)
		is, ok := impl.EnoughFriends(p)
		wantIs(t, "EnoughFriends of "+x.party, is, ok, x.enough)
		is, ok = impl.EnoughTogether(p)
		wantIs(t, "EnoughTogether of "+x.party, is, ok, x.together)
	}
}

// TestSeatedAtTheLimit tries as many people as may be seated, and one more.
func TestSeatedAtTheLimit(t *testing.T) {
	nine, _ := impl.FullParty(9)
	seats, ok := impl.FirstSeating(nine)
	wantList(t, "FirstSeating of nine friends", seats, ok, counted(9))
	count, ok := impl.CountSeatings(nine)
	wantNumber(t, "CountSeatings of nine friends", count, ok, 20160)
	seats, ok = impl.FirstRow(nine)
	wantList(t, "FirstRow of nine friends", seats, ok, counted(9))
	count, ok = impl.CountRows(nine)
	wantNumber(t, "CountRows of nine friends", count, ok, 362880)
	nobody, _ := impl.EmptyParty(9)
	seats, ok = impl.FirstSeating(nobody)
	wantList(t, "FirstSeating of nine strangers", seats, ok, none)
	seats, ok = impl.FirstRow(nobody)
	wantList(t, "FirstRow of nine strangers", seats, ok, none)
	for _, s := range []string{"10:", "10:0-1,0-9,1-2,2-3,3-4,4-5,5-6,6-7,7-8,8-9", "11:", circleOfTwelve, "12:"} {
		p := mustParse(t, s)
		seats, ok := impl.FirstSeating(p)
		wantList(t, "FirstSeating of "+s, seats, ok, none)
		count, ok := impl.CountSeatings(p)
		wantNumber(t, "CountSeatings of "+s, count, ok, -1)
		seats, ok = impl.FirstRow(p)
		wantList(t, "FirstRow of "+s, seats, ok, none)
		count, ok = impl.CountRows(p)
		wantNumber(t, "CountRows of "+s, count, ok, -1)
	}
}

// TestTwelvePeople tries as many people as there may be where chapter 8 has no bound of its own.
func TestTwelvePeople(t *testing.T) {
	circle := mustParse(t, circleOfTwelve)
	full, _ := impl.FullParty(12)
	empty, _ := impl.EmptyParty(12)
	byTurns := []int{0, 1, 0, 1, 0, 1, 0, 1, 0, 1, 0, 1}
	for _, x := range []struct {
		p        impl.Party
		pairing  []int
		pairings int
		most     []int
		two      []int
		apart    []int
		enough   bool
	}{
		{circle, counted(12), 2, counted(12), none, byTurns, false},
		{full, counted(12), 10395, counted(12), repeated(12, 0), none, true},
		{empty, none, 0, nil, none, repeated(12, 0), false},
	} {
		pairs, ok := impl.FirstPairing(x.p)
		wantPairs(t, "FirstPairing", pairs, ok, x.pairing)
		count, ok := impl.CountPairings(x.p)
		wantNumber(t, "CountPairings", count, ok, x.pairings)
		pairs, ok = impl.MostInPairs(x.p)
		wantPairs(t, "MostInPairs", pairs, ok, x.most)
		tables, ok := impl.TwoTables(x.p)
		wantList(t, "TwoTables", tables, ok, x.two)
		tables, ok = impl.TablesApart(x.p)
		wantList(t, "TablesApart", tables, ok, x.apart)
		is, ok := impl.EnoughFriends(x.p)
		wantIs(t, "EnoughFriends", is, ok, x.enough)
		is, ok = impl.EnoughTogether(x.p)
		wantIs(t, "EnoughTogether", is, ok, x.enough)
	}
	is, ok := impl.IsSeating(circle, counted(12))
	wantIs(t, "IsSeating", is, ok, true)
	is, ok = impl.IsRow(circle, counted(12))
	wantIs(t, "IsRow", is, ok, true)
	count, ok := impl.StrangersBeside(empty, counted(12))
	wantNumber(t, "StrangersBeside", count, ok, 12)
	seats, times, ok := impl.MendAll(circle, []int{0, 2, 4, 6, 8, 10, 1, 3, 5, 7, 9, 11})
	if is, _ := impl.IsSeating(circle, seats); !ok || times < 1 || times > 12 || !is {
		t.Error("MendAll", seats, times, ok)
	}
}

// TestSeatsToldFromWhomever tells a seating and a row from whomever and in whichever direction.
func TestSeatsToldFromWhomever(t *testing.T) {
	for _, x := range []struct {
		party   string
		seats   []int
		seating bool
		row     bool
	}{
		{"0:", nil, false, false},
		{"1:", []int{0}, false, true},
		{"2:", []int{0, 1}, false, false},
		{"2:0-1", []int{0, 1}, false, true},
		{"2:0-1", []int{1, 0}, false, true},
		{"3:0-1,0-2,1-2", []int{2, 1, 0}, true, true},
		{"3:0-1,0-2,1-2", []int{1, 0, 2}, true, true},
		{"3:0-1,1-2", []int{0, 1, 2}, false, true},
		{"3:0-1,1-2", []int{2, 1, 0}, false, true},
		{"3:0-1,1-2", []int{1, 2, 0}, false, false},
		{squareOfFour, []int{0, 1, 2, 3}, true, true},
		{squareOfFour, []int{0, 3, 2, 1}, true, true},
		{squareOfFour, []int{2, 3, 0, 1}, true, true},
		{squareOfFour, []int{3, 2, 1, 0}, true, true},
		{squareOfFour, []int{0, 2, 1, 3}, false, false},
		{squareOfFour, []int{1, 0, 2, 3}, false, false},
		{"4:0-1,1-2,2-3", []int{3, 2, 1, 0}, false, true},
		{"4:0-1,0-2,0-3,1-2,1-3,2-3", []int{3, 1, 0, 2}, true, true},
		{"5:0-1,0-4,1-2,2-3,3-4", []int{3, 2, 1, 0, 4}, true, true},
		{"5:0-1,0-4,1-2,2-3,3-4", []int{0, 2, 4, 1, 3}, false, false},
	} {
		p := mustParse(t, x.party)
		is, ok := impl.IsSeating(p, x.seats)
		wantIs(t, "IsSeating of "+x.party, is, ok, x.seating)
		is, ok = impl.IsRow(p, x.seats)
		wantIs(t, "IsRow of "+x.party, is, ok, x.row)
	}
}

// listsOfNoSeats returns lists that are no seats of n people, n at least 3.
func listsOfNoSeats(n int) [][]int {
	last := func(number int) []int { return append(counted(n-1), number) }
	first := func(number int) []int { return append([]int{number}, counted(n)[1:]...) }
	return [][]int{
		nil, {}, {0}, counted(n - 1), counted(n)[1:], counted(n + 1), counted(13), counted(100),
		repeated(n, 0), last(0), last(n - 2), first(1), first(n - 1), last(n), first(n), last(-1), first(-1),
		last(12), last(64), last(math.MaxInt), last(math.MinInt), first(math.MaxInt), first(math.MinInt),
		append(counted(n), 0), append(counted(n), -1), repeated(1000, 1),
	}
}

// TestListsThatAreNoSeats tries people outside, told twice or left out.
func TestListsThatAreNoSeats(t *testing.T) {
	for _, n := range []int{3, 4, 5, 9, 12} {
		p, _ := impl.FullParty(n)
		for _, list := range listsOfNoSeats(n) {
			is, ok := impl.IsSeating(p, list)
			wantIs(t, "IsSeating of no seats", is, ok, false)
			is, ok = impl.IsRow(p, list)
			wantIs(t, "IsRow of no seats", is, ok, false)
			count, ok := impl.StrangersBeside(p, list)
			wantNumber(t, "StrangersBeside of no seats", count, ok, -1)
			seats, ok := impl.MendSeats(p, list)
			wantList(t, "MendSeats of no seats", seats, ok, none)
			seats, times, ok := impl.MendAll(p, list)
			wantList(t, "MendAll of no seats", seats, ok, none)
			if times != 0 {
				t.Error("MendAll", list, "fails with", times)
			}
		}
	}
	// Even where no two neighbours are looked at, the one person has to be told.
	alone, _ := impl.EmptyParty(1)
	for _, list := range [][]int{nil, {1}, {-1}, {0, 0}, {0, 1}, {math.MaxInt}, {math.MinInt}} {
		is, ok := impl.IsRow(alone, list)
		wantIs(t, "IsRow of one person", is, ok, false)
	}
}

func TestFewerThanThreePeopleAtATable(t *testing.T) {
	for _, s := range []string{"0:", "1:", "2:", "2:0-1"} {
		p := mustParse(t, s)
		seats := counted(p.People)
		count, ok := impl.StrangersBeside(p, seats)
		wantNumber(t, "StrangersBeside of "+s, count, ok, -1)
		mended, ok := impl.MendSeats(p, seats)
		wantList(t, "MendSeats of "+s, mended, ok, none)
		mended, times, ok := impl.MendAll(p, seats)
		wantList(t, "MendAll of "+s, mended, ok, none)
		if times != 0 {
			t.Error("MendAll", s, "fails with", times)
		}
		is, ok := impl.IsSeating(p, seats)
		wantIs(t, "IsSeating of "+s, is, ok, false)
	}
}

func TestStrangersBeside(t *testing.T) {
	for _, x := range []struct {
		party string
		seats []int
		want  int
	}{
		{"3:", []int{2, 0, 1}, 3},
		{"3:0-2", []int{0, 1, 2}, 2},
		{"3:0-1,1-2", []int{0, 1, 2}, 1},
		{"3:0-1,0-2,1-2", []int{1, 2, 0}, 0},
		// Just the last one and the first one are friends, or strangers.
		{"4:0-3", []int{0, 1, 2, 3}, 3},
		{"4:0-3", []int{3, 1, 2, 0}, 3},
		{"4:0-1,1-2,2-3", []int{0, 1, 2, 3}, 1},
		{"4:0-1,1-2,2-3", []int{1, 3, 0, 2}, 3},
		{"5:0-1,0-4,1-2,2-3,3-4", []int{0, 2, 4, 1, 3}, 5},
		{"5:0-1,0-4,1-2,2-3,3-4", []int{4, 3, 2, 1, 0}, 0},
	} {
		count, ok := impl.StrangersBeside(mustParse(t, x.party), x.seats)
		wantNumber(t, "StrangersBeside of "+x.party, count, ok, x.want)
	}
}

func TestTurnSeats(t *testing.T) {
	for _, x := range []struct {
		seats []int
		i     int
		j     int
		want  []int
	}{
		{[]int{0}, 0, 0, []int{0}},
		{[]int{11}, 0, 0, []int{11}},
		{[]int{1, 0}, 0, 1, []int{0, 1}},
		{[]int{1, 0}, 1, 1, []int{1, 0}},
		{[]int{0, 2, 1, 3}, 1, 2, []int{0, 1, 2, 3}},
		{[]int{0, 2, 1, 3}, 0, 3, []int{3, 1, 2, 0}},
		{[]int{0, 2, 1, 3}, 0, 2, []int{1, 2, 0, 3}},
		{[]int{0, 2, 1, 3}, 2, 3, []int{0, 2, 3, 1}},
		{[]int{0, 2, 1, 3}, 0, 0, []int{0, 2, 1, 3}},
		{[]int{0, 2, 1, 3}, 3, 3, []int{0, 2, 1, 3}},
		// They need not be seats of a party.
		{[]int{7, 11, 4}, 0, 2, []int{4, 11, 7}},
		{[]int{7, 11, 4}, 1, 2, []int{7, 4, 11}},
		{counted(12), 0, 11, []int{11, 10, 9, 8, 7, 6, 5, 4, 3, 2, 1, 0}},
		{counted(12), 3, 8, []int{0, 1, 2, 8, 7, 6, 5, 4, 3, 9, 10, 11}},
	} {
		seats, ok := impl.TurnSeats(x.seats, x.i, x.j)
		wantList(t, "TurnSeats", seats, ok, x.want)
	}
}

func TestTurnSeatsFails(t *testing.T) {
	for _, x := range []struct {
		seats []int
		i     int
		j     int
	}{
		{nil, 0, 0}, {[]int{}, 0, 0}, {nil, 0, -1}, {nil, -1, -1},
		{[]int{0}, 0, 1}, {[]int{0}, 1, 1}, {[]int{0}, -1, 0}, {[]int{0}, 1, 0}, {[]int{0}, 0, -1},
		{[]int{0, 1, 2}, 2, 1}, {[]int{0, 1, 2}, 1, 0}, {[]int{0, 1, 2}, 0, 3}, {[]int{0, 1, 2}, 3, 3}, {[]int{0, 1, 2}, -1, 2}, {[]int{0, 1, 2}, -2, -1},
		{[]int{0, 1, 2}, math.MinInt, math.MaxInt}, {[]int{0, 1, 2}, 0, math.MaxInt}, {[]int{0, 1, 2}, math.MinInt, 0}, {[]int{0, 1, 2}, math.MaxInt, math.MinInt},
		{[]int{0, 0}, 0, 1}, {[]int{1, 2, 1}, 0, 0}, {[]int{12}, 0, 0}, {[]int{-1}, 0, 0}, {[]int{0, 12}, 0, 0}, {[]int{-1, 0}, 1, 1},
		{[]int{math.MaxInt}, 0, 0}, {[]int{math.MinInt, 3}, 0, 1}, {counted(13), 0, 0}, {append(counted(12), 0), 0, 11}, {repeated(1000, 3), 0, 999},
	} {
		seats, ok := impl.TurnSeats(x.seats, x.i, x.j)
		wantList(t, "TurnSeats", seats, ok, none)
	}
	for _, i := range extremes {
		for _, j := range extremes {
			if seats, ok := impl.TurnSeats(counted(12), i, j); ok != (i >= 0 && i <= j && j < 12) || !ok && seats != nil {
				t.Error("TurnSeats", i, j, seats, ok)
			}
		}
	}
}

func TestMendSeats(t *testing.T) {
	for _, x := range []struct {
		party string
		seats []int
		once  []int
		all   []int
		times int
	}{
		// Turning changes nothing where three people sit.
		{"3:", []int{0, 1, 2}, none, []int{0, 1, 2}, 0},
		{"3:0-1", []int{1, 2, 0}, none, []int{1, 2, 0}, 0},
		{"3:0-1,0-2,1-2", []int{2, 0, 1}, none, []int{2, 0, 1}, 0},
		// Nothing is to be mended.
		{squareOfFour, []int{2, 1, 0, 3}, none, []int{2, 1, 0, 3}, 0},
		{squareOfFour, []int{0, 2, 1, 3}, []int{0, 1, 2, 3}, []int{0, 1, 2, 3}, 1},
		{squareOfFour, []int{1, 0, 2, 3}, []int{0, 1, 2, 3}, []int{0, 1, 2, 3}, 1},
		// There are strangers, but they cannot sit elsewhere.
		{"4:", []int{3, 1, 0, 2}, none, []int{3, 1, 0, 2}, 0},
		{"4:0-1,0-2,0-3", []int{1, 0, 2, 3}, none, []int{1, 0, 2, 3}, 0},
		{"4:0-1,1-2,2-3", []int{0, 1, 2, 3}, none, []int{0, 1, 2, 3}, 0},
		// Of all turns that mend it is the one of the first index, and of these the one of the first last index: for the last seats not the best one.
		{"5:0-1,0-4,1-2,2-3,3-4", []int{1, 0, 2, 3, 4}, []int{0, 1, 2, 3, 4}, []int{0, 1, 2, 3, 4}, 1},
		{"5:0-1,0-4,1-2,2-3,3-4", []int{0, 1, 3, 2, 4}, []int{0, 1, 2, 3, 4}, []int{0, 1, 2, 3, 4}, 1},
		{"5:0-1,0-4,1-2,2-3,3-4", []int{0, 2, 4, 1, 3}, []int{2, 0, 4, 1, 3}, []int{4, 0, 1, 2, 3}, 3},
	} {
		p := mustParse(t, x.party)
		seats, ok := impl.MendSeats(p, x.seats)
		wantList(t, "MendSeats of "+x.party, seats, ok, x.once)
		seats, times, ok := impl.MendAll(p, x.seats)
		wantList(t, "MendAll of "+x.party, seats, ok, x.all)
		wantNumber(t, "MendAll of "+x.party, times, ok, x.times)
	}
}

func TestTablesFailForWrongParties(t *testing.T) {
	for _, p := range wrongParties() {
		for _, seats := range [][]int{nil, {0}, {0, 1}, {0, 1, 2}, counted(7), counted(12), counted(13)} {
			seating, ok1 := impl.IsSeating(p, seats)
			row, ok2 := impl.IsRow(p, seats)
			beside, ok3 := impl.StrangersBeside(p, seats)
			mended, ok4 := impl.MendSeats(p, seats)
			all, times, ok5 := impl.MendAll(p, seats)
			if ok1 || ok2 || ok3 || ok4 || ok5 || seating || row || beside != 0 || mended != nil || all != nil || times != 0 {
				t.Error(p, seats, "accepted", ok1, ok2, ok3, ok4, ok5, seating, row, beside, mended, all, times)
			}
		}
		first, ok1 := impl.FirstSeating(p)
		seatings, ok2 := impl.CountSeatings(p)
		row, ok3 := impl.FirstRow(p)
		rows, ok4 := impl.CountRows(p)
		two, ok5 := impl.TwoTables(p)
		apart, ok6 := impl.TablesApart(p)
		if ok1 || ok2 || ok3 || ok4 || ok5 || ok6 || first != nil || seatings != 0 || row != nil || rows != 0 || two != nil || apart != nil {
			t.Error(p, "accepted", ok1, ok2, ok3, ok4, ok5, ok6, first, seatings, row, rows, two, apart)
		}
		enough, ok1 := impl.EnoughFriends(p)
		together, ok2 := impl.EnoughTogether(p)
		pairing, ok3 := impl.FirstPairing(p)
		pairings, ok4 := impl.CountPairings(p)
		most, ok5 := impl.MostInPairs(p)
		if ok1 || ok2 || ok3 || ok4 || ok5 || enough || together || pairing != nil || pairings != 0 || most != nil {
			t.Error(p, "accepted", ok1, ok2, ok3, ok4, ok5, enough, together, pairing, pairings, most)
		}
	}
}
