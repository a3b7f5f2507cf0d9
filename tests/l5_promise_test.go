package tests

import (
	"math"
	"reflect"
	"slices"
	"testing"
	"testing/synctest"

	"loop.example/g01257/impl"
)

// heardTable tells whose news each person knows: heard[b][a], if b knows that of a.
type heardTable [impl.MaxPeople][impl.MaxPeople]bool

func ownTable(n int) heardTable {
	var heard heardTable
	for a := range n {
		heard[a][a] = true
	}
	return heard
}

func (heard heardTable) behind(call impl.Pair) heardTable {
	for a := range heard {
		both := heard[call.A][a] || heard[call.B][a]
		heard[call.A][a] = both
		heard[call.B][a] = both
	}
	return heard
}

func (heard heardTable) behindAll(calls []impl.Pair) heardTable {
	for _, call := range calls {
		heard = heard.behind(call)
	}
	return heard
}

func (heard heardTable) lists(n int) [][]int {
	lists := make([][]int, n)
	for b := range n {
		for a := range n {
			if heard[b][a] {
				lists[b] = append(lists[b], a)
			}
		}
	}
	return lists
}

func (heard heardTable) areAll(n int) bool {
	for b := range n {
		for a := range n {
			if !heard[b][a] {
				return false
			}
		}
	}
	return true
}

// tablesOf returns what is known behind 0, 1, .. calls, up to all.
func tablesOf(n int, calls []impl.Pair) []heardTable {
	tables := []heardTable{ownTable(n)}
	for i, call := range calls {
		tables = append(tables, tables[i].behind(call))
	}
	return tables
}

// checkNews holds what is told of calls against tables.
func checkNews(t *testing.T, n int, calls []impl.Pair) {
	t.Helper()
	tables := tablesOf(n, calls)
	last := tables[len(calls)]
	if !impl.AreCalls(n, calls) {
		t.Error("AreCalls", n, calls, "is false")
	}
	if news, ok := impl.NewsAfter(n, calls); !ok || !sameLists(news, last.lists(n)) {
		t.Error("NewsAfter", n, calls, news, ok)
	}
	if all, ok := impl.AllKnowAll(n, calls); !ok || all != last.areAll(n) {
		t.Error("AllKnowAll", n, calls, all, ok)
	}
	var want []int
	for i := range calls {
		if tables[i] == tables[i+1] {
			want = append(want, i)
		}
	}
	if useless, ok := impl.UselessCalls(n, calls); !ok || !slices.Equal(useless, want) {
		t.Error("UselessCalls", n, calls, useless, ok, "not", want)
	}
}

// checkHeard holds the calls behind which each person knows each news against tables.
func checkHeard(t *testing.T, n int, calls []impl.Pair) {
	t.Helper()
	tables := tablesOf(n, calls)
	for b := range n {
		for a := range n {
			want := slices.IndexFunc(tables, func(heard heardTable) bool { return heard[b][a] })
			if number, ok := impl.FirstHeard(n, calls, a, b); ok != (want >= 0) || number != max(want, 0) {
				t.Error("FirstHeard", n, calls, a, b, number, ok, "not", want)
			}
		}
	}
}

// eachCalls shows all lists of at most so many calls of n people to visit.
func eachCalls(n int, most int, told []impl.Pair, visit func([]impl.Pair)) {
	visit(told)
	if len(told) == most {
		return
	}
	full, _ := impl.FullParty(n)
	for _, call := range full.Pairs {
		eachCalls(n, most, append(told, call), visit)
	}
}

// mixedCalls returns some lists of calls of n people, the same ones each time.
func mixedCalls(n int, length int, count int) [][]impl.Pair {
	full, _ := impl.FullParty(n)
	var lists [][]impl.Pair
	z := uint64(n*100 + length)
	for range count {
		var calls []impl.Pair
		for range length {
			z = z*6364136223846793005 + 1442695040888963407
			calls = append(calls, full.Pairs[z>>33%uint64(len(full.Pairs))])
		}
		lists = append(lists, calls)
	}
	return lists
}

// TestNewsOfAllCalls is the first half of promise 5: news spreads by calls.
func TestNewsOfAllCalls(t *testing.T) {
	for _, x := range []struct {
		n    int
		most int
	}{{1, 1}, {2, 6}, {3, 5}, {4, 4}} {
		eachCalls(x.n, x.most, nil, func(calls []impl.Pair) { checkNews(t, x.n, calls) })
		eachCalls(x.n, x.most-1, nil, func(calls []impl.Pair) { checkHeard(t, x.n, calls) })
	}
	for n := 5; n <= impl.MaxPeople; n++ {
		for _, length := range []int{1, n - 1, 2*n - 4, 2 * n, 60} {
			for _, calls := range mixedCalls(n, length, 4) {
				checkNews(t, n, calls)
				checkHeard(t, n, calls)
			}
		}
	}
}

// TestNewsIsNotForgotten is the other half of promise 5: behind more calls everybody knows what it knew, and who has called knows what the other one does.
func TestNewsIsNotForgotten(t *testing.T) {
	for _, calls := range append(mixedCalls(7, 30, 10), mixedCalls(12, 60, 10)...) {
		n := 7
		if len(calls) == 60 {
			n = 12
		}
		before, _ := impl.NewsAfter(n, nil)
		wasAll := false
		for i, call := range calls {
			news, ok := impl.NewsAfter(n, calls[:i+1])
			if !ok || !slices.Equal(news[call.A], news[call.B]) {
				t.Fatal("NewsAfter", n, calls[:i+1], news, ok)
			}
			for a := range n {
				lost := slices.DeleteFunc(slices.Clone(before[a]), func(b int) bool { return slices.Contains(news[a], b) })
				if len(lost) > 0 || a != call.A && a != call.B && len(news[a]) != len(before[a]) {
					t.Error("NewsAfter", n, calls[:i+1], a, "knows", news[a], "and knew", before[a])
				}
			}
			all, ok := impl.AllKnowAll(n, calls[:i+1])
			if !ok || wasAll && !all {
				t.Error("AllKnowAll", n, calls[:i+1], all, ok)
			}
			before, wasAll = news, all
		}
		if n == 7 && !wasAll {
			t.Error("AllKnowAll", calls, "is false")
		}
	}
}

// TestGossipIsKnownToAll holds GossipCalls against the fewest calls: all of them together do, none of them is useless, and without one of them they do not.
func TestGossipIsKnownToAll(t *testing.T) {
	for n := 1; n <= impl.MaxPeople; n++ {
		calls, ok1 := impl.GossipCalls(n)
		fewest, ok2 := impl.FewestCalls(n)
		all, ok3 := impl.AllKnowAll(n, calls)
		if !ok1 || !ok2 || !ok3 || !all || len(calls) != fewest {
			t.Error("GossipCalls", n, calls, ok1, fewest, ok2, all, ok3)
		}
		if useless, ok := impl.UselessCalls(n, calls); !ok || len(useless) > 0 {
			t.Error("UselessCalls of gossip", n, useless, ok)
		}
		for i := range calls {
			if all, ok := impl.AllKnowAll(n, slices.Delete(slices.Clone(calls), i, i+1)); !ok || all {
				t.Error("AllKnowAll of gossip", n, "without", i, all, ok)
			}
		}
		checkHeard(t, n, calls)
	}
}

// isToldWithin reports whether at most so many steps more, each of some calls, make all know all.
func isToldWithin(n int, heard heardTable, steps [][]impl.Pair, most int) bool {
	if most < 0 || heard.areAll(n) {
		return most >= 0
	}
	for _, calls := range steps {
		if isToldWithin(n, heard.behindAll(calls), steps, most-1) {
			return true
		}
	}
	return false
}

// checkFewest tries all lists of fewer steps. Whichever comes first, there are people with the numbers of the first one told.
func checkFewest(t *testing.T, n int, steps [][]impl.Pair, fewest int) {
	t.Helper()
	first := ownTable(n).behindAll(steps[0])
	if isToldWithin(n, first, steps, fewest-2) {
		t.Error(n, "people need", fewest, "but fewer do")
	}
	if !isToldWithin(n, first, steps, fewest-1) {
		t.Error(n, "people need", fewest, "but they do not")
	}
}

func TestNoFewerCallsDo(t *testing.T) {
	for n := 2; n <= 5; n++ {
		full, _ := impl.FullParty(n)
		var steps [][]impl.Pair
		for _, call := range full.Pairs {
			steps = append(steps, []impl.Pair{call})
		}
		fewest, ok := impl.FewestCalls(n)
		if !ok {
			t.Error("FewestCalls", n, "fails")
		}
		checkFewest(t, n, steps, fewest)
	}
}

// allRounds returns all ways in which as many people as can be of a list call in pairs. Where fewer call, no news spreads farther.
func allRounds(people []int) [][]impl.Pair {
	if len(people) < 2 {
		return [][]impl.Pair{nil}
	}
	var rounds [][]impl.Pair
	for i := 1; i < len(people); i++ {
		for _, others := range allRounds(slices.Concat(people[1:i], people[i+1:])) {
			rounds = append(rounds, append(others, impl.Pair{A: people[0], B: people[i]}))
		}
	}
	if len(people)%2 == 1 {
		rounds = append(rounds, allRounds(people[1:])...)
	}
	return rounds
}

func TestNoFewerRoundsDo(t *testing.T) {
	for n := 2; n <= 7; n++ {
		fewest, ok := impl.RoundsForAll(n)
		if !ok {
			t.Error("RoundsForAll", n, "fails")
		}
		checkFewest(t, n, allRounds(counted(n)), fewest)
	}
}

// TestRoundCallsTellAll holds RoundCalls against RoundsForAll: everybody calls just once in each round, and behind the last call all know all.
func TestRoundCallsTellAll(t *testing.T) {
	for rounds := range 4 {
		n := 1 << rounds
		calls, ok := impl.RoundCalls(rounds)
		if !ok || len(calls) != rounds*n/2 || !impl.AreCalls(n, calls) {
			t.Error("RoundCalls", rounds, calls, ok)
			continue
		}
		for i := range rounds {
			called := 0
			for _, call := range calls[i*n/2 : (i+1)*n/2] {
				called |= 1<<call.A | 1<<call.B
			}
			if called != 1<<n-1 {
				t.Error("RoundCalls", rounds, calls, "lack calls in round", i)
			}
		}
		for count := range len(calls) + 1 {
			if all, ok := impl.AllKnowAll(n, calls[:count]); !ok || all != (count == len(calls)) {
				t.Error("AllKnowAll of rounds", rounds, count, all, ok)
			}
		}
		if fewest, ok := impl.RoundsForAll(n); !ok || fewest != rounds {
			t.Error("RoundsForAll", n, fewest, ok)
		}
	}
}

// checkCouples holds what is told of a party of an even number of people against its table, and reports whether it is one of couples.
func checkCouples(t *testing.T, p impl.Party) bool {
	t.Helper()
	table := tableOf(p)
	numbers := make([]int, p.People)
	want := true
	for a := range p.People {
		for b := range p.People {
			if table[a][b] {
				numbers[a]++
			}
		}
		if table[a][a^1] || a > 1 && slices.Contains(numbers[1:a], numbers[a]) {
			want = false
		}
	}
	if are, ok := impl.AreCouples(p); !ok || are != want {
		t.Error("AreCouples", p, are, ok)
	}
	told, ok := impl.ToldNumbers(p)
	if ok != want || ok && !slices.Equal(told, counted(p.People-1)) || !ok && told != nil {
		t.Error("ToldNumbers", p, told, ok)
	}
	number, ok := impl.SpouseNumber(p)
	if ok != want || !ok && number != 0 || ok && (number != p.People/2-1 || number != numbers[0] || number != numbers[1]) {
		t.Error("SpouseNumber", p, number, ok)
	}
	return want
}

// TestCouplesOfAllParties finds all parties of couples among those of few people: all of them are the same but for names, and there is one for each way to exchange names behind the host and its spouse, couples for couples.
func TestCouplesOfAllParties(t *testing.T) {
	for couples, want := range map[int]int{1: 1, 2: 2, 3: 8} {
		made, _ := impl.CouplesParty(couples)
		count := 0
		for _, p := range allParties(2 * couples) {
			if !checkCouples(t, p) {
				continue
			}
			count++
			if same, ok := impl.AreSame(p, made); !ok || !same {
				t.Error("AreSame", p, made, same, ok)
			}
		}
		if count != want {
			t.Error("there are", count, "parties of", couples, "couples")
		}
	}
}

// TestCouplesOfManyPeople tries parties of couples with other names, and such ones in which one pair is exchanged.
func TestCouplesOfManyPeople(t *testing.T) {
	for couples := 3; couples <= 6; couples++ {
		p, _ := impl.CouplesParty(couples)
		names := counted(p.People)
		// The couples behind the host's change their places, and some of them the numbers of both, too.
		for i := 2; i < p.People; i++ {
			names[i] = 2 + (i+2)%(p.People-2)
			if i%4 > 1 {
				names[i] ^= 1
			}
		}
		q, ok := impl.RenameParty(p, names)
		if !ok || !checkCouples(t, q) {
			t.Error("AreCouples", q, "is false")
		}
		full, _ := impl.FullParty(p.People)
		for _, pair := range full.Pairs {
			changed, ok := impl.AddPair(q, pair.A, pair.B)
			if !ok {
				changed, _ = impl.DropPair(q, pair.A, pair.B)
			}
			checkCouples(t, changed)
		}
		for _, r := range mixedParties(2*couples, 20) {
			checkCouples(t, r)
		}
	}
}

// fameOfCode returns the fame of n people in which a knows b for all pairs of different people, in their order, whose bits of the code are 1.
func fameOfCode(n int, code uint64) [][]int {
	known := make([][]int, n)
	for a := range n {
		for b := range n {
			if a == b {
				continue
			}
			if code&1 == 1 {
				known[a] = append(known[a], b)
			}
			code >>= 1
		}
	}
	return known
}

// starByTable returns the star, and -1 if there is none.
func starByTable(known [][]int) int {
	for a, list := range known {
		fans := 0
		for _, others := range known {
			if slices.Contains(others, a) {
				fans++
			}
		}
		if len(list) == 0 && fans == len(known)-1 {
			return a
		}
	}
	return -1
}

// questionsStepByStep asks as the document says. For each question it is kept apart whether it was asked.
func questionsStepByStep(known [][]int) []impl.Pair {
	var was friendTable
	var asked []impl.Pair
	isAsked := func(a int, b int) bool {
		if was[a][b] {
			return false
		}
		was[a][b] = true
		asked = append(asked, impl.Pair{A: a, B: b})
		return true
	}
	c := 0
	for b := 1; b < len(known); b++ {
		isAsked(c, b)
		if slices.Contains(known[c], b) {
			c = b
		}
	}
	for x := range known {
		if x == c {
			continue
		}
		if isAsked(c, x) && slices.Contains(known[c], x) {
			break
		}
		if isAsked(x, c) && !slices.Contains(known[x], c) {
			break
		}
	}
	return asked
}

// checkFame holds the star and the questions against all that is known.
func checkFame(t *testing.T, known [][]int) {
	t.Helper()
	n := len(known)
	if !impl.IsFame(known) {
		t.Error("IsFame", known, "is false")
	}
	want := starByTable(known)
	if star, ok := impl.StarOf(known); ok != (want >= 0) || star != max(want, 0) {
		t.Error("StarOf", known, star, ok, "not", want)
	}
	asked, ok := impl.QuestionsForStar(known)
	if !ok || !slices.Equal(asked, questionsStepByStep(known)) {
		t.Error("QuestionsForStar", known, asked, ok)
	}
	if len(asked) > 3*(n-1) {
		t.Error("QuestionsForStar", known, "asks too much:", asked)
	}
	if want < 0 {
		return
	}
	// There is no doubt left: the star was asked about all others, and they about it.
	for a := range n {
		if a != want && (!slices.Contains(asked, impl.Pair{A: a, B: want}) || !slices.Contains(asked, impl.Pair{A: want, B: a})) {
			t.Error("QuestionsForStar", known, asked, "leaves out", a)
		}
	}
}

func TestStarsOfAllFame(t *testing.T) {
	for n := 1; n <= 4; n++ {
		for code := uint64(0); code < 1<<(n*(n-1)); code++ {
			checkFame(t, fameOfCode(n, code))
		}
	}
	for n := 1; n <= impl.MaxPeople; n++ {
		for star := range n {
			known, ok := impl.MakeStar(n, star)
			if found, fine := impl.StarOf(known); !ok || !fine || found != star {
				t.Error("StarOf", n, star, found, fine)
			}
			checkFame(t, known)
		}
	}
}

// TestNearlyStars tries fame of stars in which one person who should be known is not, or who should not be is.
func TestNearlyStars(t *testing.T) {
	for _, n := range []int{5, 6, 12} {
		for star := range n {
			for a := range n {
				for b := range n {
					known, _ := impl.MakeStar(n, star)
					i, has := slices.BinarySearch(known[a], b)
					switch {
					case a == b:
						continue
					case has:
						known[a] = slices.Delete(known[a], i, i+1)
					default:
						known[a] = slices.Insert(known[a], i, b)
					}
					checkFame(t, known)
				}
			}
		}
	}
}

func TestIsFameOfAllLists(t *testing.T) {
	lists := append(allLists(0, 0, 0), allLists(1, -1, 3)...)
	lists = append(lists, allLists(2, -1, 3)...)
	lists = append(lists, []int{0, 1, 2}, []int{1, 2, 2})
	isKnown := func(list []int, a int, n int) bool {
		for i, b := range list {
			if b < 0 || b >= n || b == a || i > 0 && list[i-1] >= b {
				return false
			}
		}
		return true
	}
	for _, x := range lists {
		if is := impl.IsFame([][]int{x}); is != isKnown(x, 0, 1) {
			t.Error("IsFame", x, is)
		}
		for _, y := range lists {
			if is := impl.IsFame([][]int{x, y}); is != (isKnown(x, 0, 2) && isKnown(y, 1, 2)) {
				t.Error("IsFame", x, y, is)
			}
			if is := impl.IsFame([][]int{x, {0, 2}, y}); is != (isKnown(x, 0, 3) && isKnown(y, 2, 3)) {
				t.Error("IsFame", x, y, is)
			}
		}
	}
}

// TestNoCallLeavesWork checks that nobody still waits to tell news when a call has returned, whether all news were wanted or not.
func TestNoCallLeavesWork(t *testing.T) {
	synctest.Test(t, func(t *testing.T) {
		for _, x := range append(wrongCalls(), someCalls{1, nil}, someCalls{2, nil}, someCalls{2, manyCalls(60)}, someCalls{12, manyCalls(60)}) {
			impl.NewsAfter(x.n, x.calls)
			impl.AllKnowAll(x.n, x.calls)
			impl.UselessCalls(x.n, x.calls)
			for _, people := range callsOf(0, 0, 0, 1, 1, 0, 0, 11, 11, 0) {
				impl.FirstHeard(x.n, x.calls, people.A, people.B)
			}
		}
	})
}

// handsValues returns the values with which the functions of chapter 5 are tried: right ones and others.
func handsValues(t *testing.T) map[reflect.Type][]reflect.Value {
	values := map[reflect.Type][]reflect.Value{}
	for _, s := range []string{"0:", "1:", "2:", "2:0-1", "3:0-1,1-2", "4:0-2,1-2", "4:0-1,1-2", "12:0-11,1-10,2-9"} {
		addValues(values, mustParse(t, s))
	}
	for _, couples := range []int{3, 6} {
		p, _ := impl.CouplesParty(couples)
		addValues(values, p)
	}
	addValues(values, mixedParties(12, 2)...)
	addValues(values, wrongParties()...)
	addValues(values, math.MinInt, -1, 0, 1, 2, 3, 4, 6, 7, 11, 12, 13, math.MaxInt)
	for _, n := range []int{1, 2, 5, 12} {
		known, _ := impl.MakeStar(n, n/2)
		addValues(values, known, fullFame(n), make([][]int, n))
	}
	addValues(values, wrongFame()...)
	addValues(values, nil, []impl.Pair{}, callsOf(0, 1), callsOf(0, 1, 2, 3, 0, 2, 1, 3), callsOf(1, 2, 0, 1, 0, 1), callsOf(10, 11, 0, 11), manyCalls(60))
	addValues(values, mixedCalls(12, 60, 1)...)
	addValues(values, callsOf(1, 0), callsOf(0, 0), callsOf(-1, 0), callsOf(0, 12), callsOf(0, 1, 1, 13), callsOf(math.MinInt, math.MaxInt), manyCalls(61), make([]impl.Pair, 1000))
	return values
}

func TestHandsCallsKeepTheirArguments(t *testing.T) {
	values := handsValues(t)
	for _, f := range []struct {
		name string
		call any
	}{
		{"CouplesParty", impl.CouplesParty},
		{"AreCouples", impl.AreCouples},
		{"ToldNumbers", impl.ToldNumbers},
		{"SpouseNumber", impl.SpouseNumber},
		{"IsFame", impl.IsFame},
		{"StarOf", impl.StarOf},
		{"QuestionsForStar", impl.QuestionsForStar},
		{"MakeStar", impl.MakeStar},
		{"AreCalls", impl.AreCalls},
		{"NewsAfter", impl.NewsAfter},
		{"AllKnowAll", impl.AllKnowAll},
		{"FewestCalls", impl.FewestCalls},
		{"GossipCalls", impl.GossipCalls},
		{"UselessCalls", impl.UselessCalls},
		{"FirstHeard", impl.FirstHeard},
		{"RoundsForAll", impl.RoundsForAll},
		{"RoundCalls", impl.RoundCalls},
	} {
		sweep(t, f.name, f.call, values)
	}
}
