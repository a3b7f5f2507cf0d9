package tests

import (
	"math"
	"reflect"
	"slices"
	"testing"

	"loop.example/g01257/impl"
)

// far is more than each distance.
const far = 1000

// commonByTable returns the common friends of two people, or all friends of one.
func commonByTable(table friendTable, a int, b int) []int {
	var list []int
	for c := range table {
		if table[a][c] && table[b][c] {
			list = append(list, c)
		}
	}
	return list
}

// distancesOf returns how far people are from each other, going on by way of more and more people.
func distancesOf(p impl.Party) [][]int {
	table := tableOf(p)
	rows := make([][]int, p.People)
	for a := range rows {
		rows[a] = repeated(p.People, far)
		for b := range rows[a] {
			if table[a][b] {
				rows[a][b] = 1
			}
		}
		rows[a][a] = 0
	}
	for c := range rows {
		for a := range rows {
			for b := range rows {
				rows[a][b] = min(rows[a][b], rows[a][c]+rows[c][b])
			}
		}
	}
	return rows
}

// roundByTable returns the fewest people, at least three, who come back behind those told, all different, by steps to friends, and far if there are none.
func roundByTable(table friendTable, n int, told []int) int {
	last := told[len(told)-1]
	if len(told) > 2 && table[last][told[0]] {
		return len(told)
	}
	fewest := far
	for next := range n {
		if table[last][next] && !slices.Contains(told, next) {
			fewest = min(fewest, roundByTable(table, n, append(told, next)))
		}
	}
	return fewest
}

// checkCommon holds common friends, and what chapter 7 tells by them, against the party's table.
func checkCommon(t *testing.T, p impl.Party) {
	t.Helper()
	table := tableOf(p)
	rows, ok := impl.CommonTable(p)
	if !ok || len(rows) != p.People {
		t.Fatal("CommonTable", p, rows, ok)
	}
	friendly := p.People > 0
	var ofFriends, ofStrangers []int
	for a := range p.People {
		if len(rows[a]) != p.People {
			t.Fatal("CommonTable", p, rows)
		}
		for b := range p.People {
			want := commonByTable(table, a, b)
			if rows[a][b] != len(want) {
				t.Error("CommonTable", p, a, b, rows[a][b], "not", want)
			}
			common, ok := impl.CommonFriends(p, a, b)
			if ok != (a != b) || ok && !slices.Equal(common, want) || !ok && common != nil {
				t.Error("CommonFriends", p, a, b, common, ok, "not", want)
			}
			if a == b {
				continue
			}
			friendly = friendly && len(want) == 1
			if table[a][b] {
				ofFriends = append(ofFriends, len(want))
			} else {
				ofStrangers = append(ofStrangers, len(want))
			}
		}
	}
	if is, ok := impl.IsFriendly(p); ok != (p.People > 0) || is != friendly {
		t.Error("IsFriendly", p, is, ok, "not", friendly)
	}
	checkStrong(t, p, slices.Compact(ofFriends), slices.Compact(ofStrangers))
}

// checkStrong holds the numbers of a party against those of each person, and against the different numbers of common friends that friends, and that strangers have.
func checkStrong(t *testing.T, p impl.Party, ofFriends []int, ofStrangers []int) {
	t.Helper()
	var numbers []int
	politician := -1
	for a, row := range tableOf(p) {
		number := 0
		for _, are := range row {
			if are {
				number++
			}
		}
		if a < p.People {
			numbers = append(numbers, number)
		}
		if a < p.People && number == p.People-1 && politician < 0 {
			politician = a
		}
	}
	found, ok := impl.PoliticianOf(p)
	wantNumber(t, "PoliticianOf", found, ok, politician)
	want := -1
	if numbers = slices.Compact(numbers); len(numbers) == 1 {
		want = numbers[0]
	}
	equal, ok := impl.EqualNumber(p)
	wantNumber(t, "EqualNumber", equal, ok, want)
	strong, ok := impl.StrongNumbers(p)
	if want < 0 || len(ofFriends) != 1 || len(ofStrangers) != 1 {
		if ok || strong != nil {
			t.Error("StrongNumbers", p, strong, ok)
		}
		return
	}
	if list := []int{p.People, want, ofFriends[0], ofStrangers[0]}; !ok || !slices.Equal(strong, list) {
		t.Error("StrongNumbers", p, strong, ok, "not", list)
	}
}

// checkWindmill holds friendly parties against windmills: each one is some windmill with other names, and has a politician.
func checkWindmill(t *testing.T, p impl.Party) {
	t.Helper()
	friendly, ok := impl.IsFriendly(p)
	windmill, fine := impl.IsWindmill(p)
	if !ok || !fine || friendly != windmill {
		t.Error(p, "IsFriendly", friendly, ok, "IsWindmill", windmill, fine)
	}
	politician, ok := impl.PoliticianOf(p)
	if friendly && !ok {
		t.Error("PoliticianOf", p, politician, ok)
	}
	if p.People > 7 {
		return
	}
	same := false
	if p.People%2 == 1 {
		q, _ := impl.WindmillParty(p.People / 2)
		same, _ = impl.AreSame(p, q)
	}
	if windmill != same {
		t.Error("IsWindmill", p, windmill, "but it is the same:", same)
	}
}

// TestCommonFriendsOfAllParties tries all parties of few people, and some of more.
func TestCommonFriendsOfAllParties(t *testing.T) {
	for _, p := range append(smallParties(5), someParties()...) {
		checkCommon(t, p)
	}
	for n := 6; n <= impl.MaxPeople; n++ {
		for _, steps := range allChoices(n/2 + 1)[1:] {
			if steps[0] > 0 {
				p, _ := impl.CircleParty(n, steps)
				checkCommon(t, p)
			}
		}
	}
}

// TestFriendlyPartiesAreWindmills is promise 7, for all parties of at most five people and those of six and seven that may be friendly.
func TestFriendlyPartiesAreWindmills(t *testing.T) {
	for _, p := range smallParties(5)[1:] {
		checkWindmill(t, p)
	}
	for n := 1; n <= 7; n++ {
		friendly := 0
		eachOfOneInCommon(n, 0, 1, friendTable{}, func(table friendTable) {
			p := partyOfTable(n, table)
			checkWindmill(t, p)
			if is, _ := impl.IsFriendly(p); is {
				friendly++
			}
		})
		// One person is the politician, the others are put into pairs; of three people all are politicians.
		if want := []int{1: 1, 3: 1, 5: 5 * 3, 7: 7 * 15}[n]; friendly != want {
			t.Error(friendly, "friendly parties of", n, "people, not", want)
		}
	}
}

// eachOfOneInCommon shows the tables of n people to visit of whom no two have more than one common friend, and, of seven people, everybody has some friend.
func eachOfOneInCommon(n int, a int, b int, table friendTable, visit func(friendTable)) {
	if b >= n {
		if n == 7 && !slices.Contains(table[a][:], true) {
			return
		}
		a, b = a+1, a+2
	}
	if a >= n-1 {
		visit(table)
		return
	}
	eachOfOneInCommon(n, a, b+1, table, visit)
	table[a][b], table[b][a] = true, true
	for c := range n {
		if c != a && len(commonByTable(table, a, c)) > 1 || c != b && len(commonByTable(table, b, c)) > 1 {
			return
		}
	}
	eachOfOneInCommon(n, a, b+1, table, visit)
}

// TestWindmillsWithOtherNames renames all windmills, which have more people than parties that are compared, and takes or adds each pair.
func TestWindmillsWithOtherNames(t *testing.T) {
	for sails := range 6 {
		p, ok := impl.WindmillParty(sails)
		if !ok || p.People != 2*sails+1 || len(p.Pairs) != 3*sails {
			t.Error("WindmillParty", sails, p, ok)
		}
		for step := 1; step < p.People; step++ {
			checkCommon(t, p)
			checkWindmill(t, p)
			for a := range p.People {
				for b := range a {
					checkNoWindmill(t, p, a, b)
				}
			}
			p, _ = impl.RenameParty(p, namesByTurns(p.People, step))
		}
		if is, ok := impl.IsWindmill(p); !ok || !is {
			t.Error("IsWindmill", p, is, ok)
		}
	}
}

// namesByTurns returns the numbers 0 up to n - 1, of which those from 0 up to a turn are told behind the others, from the last one on.
func namesByTurns(n int, turn int) []int {
	names := counted(n)
	slices.Reverse(names[:turn])
	slices.Reverse(names)
	return names
}

// TestOneMoreIsNoWindmill lets a person join a windmill, as a friend of the first ones, 0 up to all.
func TestOneMoreIsNoWindmill(t *testing.T) {
	for sails := range 6 {
		p, _ := impl.WindmillParty(sails)
		for friends := range p.People + 1 {
			table := tableOf(p)
			for a := range friends {
				table[a][p.People], table[p.People][a] = true, true
			}
			q := partyOfTable(p.People+1, table)
			checkCommon(t, q)
			checkWindmill(t, q)
			if is, ok := impl.IsWindmill(q); !ok || is {
				t.Error("IsWindmill", q, is, ok)
			}
		}
	}
	for n := 8; n <= impl.MaxPeople; n++ {
		for _, p := range mixedParties(n, 100) {
			checkWindmill(t, p)
		}
	}
}

// checkNoWindmill takes or adds a pair of a windmill: it is none then.
func checkNoWindmill(t *testing.T, p impl.Party, a int, b int) {
	t.Helper()
	q, ok := impl.DropPair(p, a, b)
	if !ok {
		q, ok = impl.AddPair(p, a, b)
	}
	friendly, fine1 := impl.IsFriendly(q)
	windmill, fine2 := impl.IsWindmill(q)
	if !ok || !fine1 || !fine2 || friendly || windmill {
		t.Error(q, "IsFriendly", friendly, fine1, "IsWindmill", windmill, fine2)
	}
}

// checkWays holds distances and rounds against those by the party's table.
func checkWays(t *testing.T, p impl.Party) {
	t.Helper()
	table := tableOf(p)
	shortest, widest := far, 0
	for a, row := range distancesOf(p) {
		shortest = min(shortest, roundByTable(table, p.People, []int{a}))
		for b, want := range row {
			widest = max(widest, want)
			found, ok := impl.DistanceOf(p, a, b)
			if ok != (want < far) || ok && found != want || !ok && found != 0 {
				t.Error("DistanceOf", p, a, b, found, ok, "not", want)
			}
		}
	}
	if found, ok := impl.WidestDistance(p); ok != (p.People > 0 && widest < far) || ok && found != widest || !ok && found != 0 {
		t.Error("WidestDistance", p, found, ok, "not", widest)
	}
	if found, ok := impl.ShortestRound(p); ok != (shortest < far) || ok && found != shortest || !ok && found != 0 {
		t.Error("ShortestRound", p, found, ok, "not", shortest)
	}
}

func TestDistancesAndRoundsOfAllParties(t *testing.T) {
	for _, p := range smallParties(5) {
		checkWays(t, p)
	}
	for n := 6; n <= impl.MaxPeople; n++ {
		for _, p := range mixedParties(n, 60) {
			// Of parties with many pairs there are too many ways to look at.
			if len(p.Pairs) <= n+4 {
				checkWays(t, p)
			}
		}
	}
	for n := 3; n <= impl.MaxPeople; n++ {
		for step := 1; step <= n/2; step++ {
			p, _ := impl.CircleParty(n, []int{step})
			checkWays(t, p)
		}
	}
	p, _ := impl.PairParty(5)
	checkWays(t, p)
}

// checkWalks holds the walks of all lengths against those by one friend more.
func checkWalks(t *testing.T, p impl.Party) {
	t.Helper()
	table := tableOf(p)
	rows := make([][]int, p.People)
	for a := range rows {
		rows[a] = repeated(p.People, 0)
		rows[a][a] = 1
	}
	for length := 0; length <= impl.MaxWalk; length++ {
		back := 0
		longer := make([][]int, p.People)
		for a, row := range rows {
			back += row[a]
			longer[a] = repeated(p.People, 0)
			for b, want := range row {
				if count, ok := impl.CountWalks(p, a, b, length); !ok || count != want {
					t.Error("CountWalks", p, a, b, length, count, ok, "not", want)
				}
				for c := range longer[a] {
					if table[b][c] {
						longer[a][c] += want
					}
				}
			}
		}
		if count, ok := impl.CountRoundWalks(p, length); !ok || count != back {
			t.Error("CountRoundWalks", p, length, count, ok, "not", back)
		}
		rows = longer
	}
}

func TestWalksOfAllParties(t *testing.T) {
	for _, p := range smallParties(4) {
		checkWalks(t, p)
	}
	for i, p := range allParties(5) {
		if i%8 == 0 {
			checkWalks(t, p)
		}
	}
	for n := 6; n <= impl.MaxPeople; n++ {
		for _, p := range mixedParties(n, 3) {
			checkWalks(t, p)
		}
	}
}

// TestFirstWalksTellDistances holds distances against walks: as long as one is, there are none that are shorter.
func TestFirstWalksTellDistances(t *testing.T) {
	for n := 1; n <= 11; n++ {
		for _, p := range mixedParties(n, 3) {
			for a := range n {
				for b := range n {
					first := 0
					for first <= impl.MaxWalk {
						if count, _ := impl.CountWalks(p, a, b, first); count > 0 {
							break
						}
						first++
					}
					if found, ok := impl.DistanceOf(p, a, b); ok != (first <= impl.MaxWalk) || ok && found != first {
						t.Error("DistanceOf", p, a, b, found, ok, "not", first)
					}
				}
			}
		}
	}
}

// TestCirclesOfAllSteps holds circles of all numbers of people and all steps against the differences of numbers.
func TestCirclesOfAllSteps(t *testing.T) {
	for n := 1; n <= impl.MaxPeople; n++ {
		for _, steps := range allChoices(8) {
			var table friendTable
			for a := range n {
				for _, step := range steps {
					table[a][(a+step)%n], table[(a+step)%n][a] = true, true
				}
			}
			want := len(steps) == 0 || steps[0] > 0 && 2*steps[len(steps)-1] <= n
			p, ok := impl.CircleParty(n, steps)
			if ok != want || ok && !sameParty(p, partyOfTable(n, table)) || !ok && !isZeroParty(p) {
				t.Error("CircleParty", n, steps, p, ok)
			}
			if _, equal := impl.EqualNumber(p); ok && !equal {
				t.Error("EqualNumber", p, "fails")
			}
		}
	}
}

// linesByLists returns the party whose people are pairs, those being friends who have something, or nothing, in common.
func linesByLists(pairs []impl.Pair, common bool) impl.Party {
	var table friendTable
	for i, x := range pairs {
		for j, y := range pairs {
			has := slices.Contains([]int{x.A, x.B}, y.A) || slices.Contains([]int{x.A, x.B}, y.B)
			table[i][j] = has == common
		}
	}
	return partyOfTable(len(pairs), table)
}

func TestLinesOfAllParties(t *testing.T) {
	parties := smallParties(5)
	for n := 6; n <= impl.MaxPeople; n++ {
		parties = append(parties, mixedParties(n, 60)...)
	}
	for _, p := range parties {
		lines, ok := impl.LinesOf(p)
		if len(p.Pairs) > impl.MaxPeople {
			if ok || !isZeroParty(lines) {
				t.Error("LinesOf", p, lines, ok)
			}
			continue
		}
		if want := linesByLists(p.Pairs, true); !ok || !sameParty(lines, want) {
			t.Error("LinesOf", p, lines, ok, "not", want)
		}
	}
	for n := 2; n <= 5; n++ {
		full, _ := impl.FullParty(n)
		want := linesByLists(full.Pairs, false)
		if p, ok := impl.PairParty(n); !ok || !sameParty(p, want) {
			t.Error("PairParty", n, p, ok, "not", want)
		}
	}
}

// TestNoMorePeopleThanMost holds parties against the bound for their greatest number of friends and their widest distance, some of which meet it.
func TestNoMorePeopleThanMost(t *testing.T) {
	met := 0
	parties := append(smallParties(5), someParties()...)
	for n := 3; n <= impl.MaxPeople; n++ {
		circle, _ := impl.CircleParty(n, []int{1})
		full, _ := impl.FullParty(min(n, 7))
		parties = append(parties, circle, full)
	}
	pairs, _ := impl.PairParty(5)
	for _, p := range append(parties, pairs) {
		numbers, _ := impl.NumbersOfFriends(p)
		widest, ok := impl.WidestDistance(p)
		if !ok {
			continue
		}
		most, fine := impl.MostPeople(slices.Max(numbers), widest)
		if fine && p.People > most {
			t.Error("MostPeople", p, "has more than", most)
		}
		if fine && p.People == most {
			met++
		}
	}
	if met < 5 {
		t.Error("MostPeople is met by", met, "parties")
	}
}

// peopleOfTree counts a person and all who are told by it, each one telling so many others, one distance after the other.
func peopleOfTree(told int, others int, left int) int {
	people := 1
	if left > 0 {
		for range told {
			people += peopleOfTree(others, others, left-1)
		}
	}
	return people
}

func TestMostPeopleByTrees(t *testing.T) {
	for d := 2; d <= 6; d++ {
		for k := 0; k <= 5; k++ {
			want := peopleOfTree(d, d-1, k)
			if most, ok := impl.MostPeople(d, k); !ok || most != want {
				t.Error("MostPeople", d, k, most, ok, "not", want)
			}
		}
	}
}

// commonValues returns the values with which the functions of chapter 7 are tried: right ones and others.
func commonValues(t *testing.T) map[reflect.Type][]reflect.Value {
	values := map[reflect.Type][]reflect.Value{}
	for _, s := range []string{"0:", "1:", "2:", "2:0-1", "3:0-1,0-2,1-2", "4:0-1,0-3,1-2,2-3", "5:0-1,0-2,0-3,0-4,1-2,3-4", "5:0-1,0-2,1-2,3-4", circleOfTwelve, pairsOfFive, "12:"} {
		addValues(values, mustParse(t, s))
	}
	full, _ := impl.FullParty(12)
	addValues(values, full)
	addValues(values, mixedParties(9, 1)...)
	addValues(values, wrongParties()...)
	addValues(values, math.MinInt, -1, 0, 1, 2, 5, 6, 10, 11, 12, 13, math.MaxInt)
	addValues(values, nil, []int{}, []int{0}, []int{1}, []int{6}, []int{1, 2}, []int{2, 1}, []int{1, 1}, []int{-1, 1}, []int{1, 2, 3, 4, 5, 6}, []int{1, 2, 3, 4, 5, 6, 7}, []int{math.MinInt, math.MaxInt}, counted(13), repeated(100, 1))
	return values
}

func TestCommonCallsKeepTheirArguments(t *testing.T) {
	values := commonValues(t)
	for _, f := range []struct {
		name string
		call any
	}{
		{"CommonFriends", impl.CommonFriends},
		{"CommonTable", impl.CommonTable},
		{"IsFriendly", impl.IsFriendly},
		{"WindmillParty", impl.WindmillParty},
		{"IsWindmill", impl.IsWindmill},
		{"PoliticianOf", impl.PoliticianOf},
		{"EqualNumber", impl.EqualNumber},
		{"StrongNumbers", impl.StrongNumbers},
		{"CircleParty", impl.CircleParty},
		{"PairParty", impl.PairParty},
		{"LinesOf", impl.LinesOf},
		{"CountWalks", impl.CountWalks},
		{"CountRoundWalks", impl.CountRoundWalks},
		{"DistanceOf", impl.DistanceOf},
		{"WidestDistance", impl.WidestDistance},
		{"ShortestRound", impl.ShortestRound},
		{"MostPeople", impl.MostPeople},
	} {
		sweep(t, f.name, f.call, values)
	}
}
