package tests

import (
	"math"
	"math/bits"
	"reflect"
	"slices"
	"strings"
	"testing"

	"loop.example/g01257/impl"
)

// toldOf returns what a party tells of the kind of a clue, and of its people, made of tables alone.
func toldOf(c impl.Clue, p impl.Party) impl.Clue {
	table := tableOf(p)
	switch c.Kind {
	case 0, 1:
		c.Kind = 1
		if table[c.A][c.B] {
			c.Kind = 0
		}
	case 2:
		c.B = 0
		for _, are := range table[c.A] {
			if are {
				c.B++
			}
		}
	case 3:
		c.A = len(p.Pairs)
	case 4:
		c.A = 0
		for _, list := range allChoices(p.People) {
			if len(list) == 3 && areTied(table, list, true) {
				c.A++
			}
		}
	case 5:
		c.A = len(partsBySteps(p))
	}
	return c
}

// book has all parties of so many people, in order, and all clues, with those of the parties that fit.
type book struct {
	people  int
	parties []impl.Party
	clues   []impl.Clue
	fit     map[impl.Clue][]bool
}

func bookOf(n int) book {
	b := book{people: n, parties: allParties(n), fit: map[impl.Clue][]bool{}}
	slices.SortFunc(b.parties, compareParties)
	for kind := range 6 {
		for x := range 11 {
			for y := range n {
				c := impl.Clue{Kind: kind, A: x, B: y}
				if !isClueByWords(n, c) {
					continue
				}
				b.clues = append(b.clues, c)
				for _, p := range b.parties {
					b.fit[c] = append(b.fit[c], toldOf(c, p) == c)
				}
			}
		}
	}
	return b
}

// solutions returns the parties that fit all clues, but those that are left out as the bits of a number tell it.
func (b book) solutions(clues []impl.Clue, out uint) []impl.Party {
	var list []impl.Party
	for i, p := range b.parties {
		fits := true
		for k, c := range clues {
			fits = fits && (out>>k&1 == 1 || b.fit[c][i])
		}
		if fits {
			list = append(list, p)
		}
	}
	return list
}

// mixedPuzzles returns some puzzles, the same ones each time. In most of them the clues are true of one party.
func (b book) mixedPuzzles(count int) []impl.Puzzle {
	var list []impl.Puzzle
	z := uint64(b.people)
	next := func(modulo int) int {
		z = z*6364136223846793005 + 1442695040888963407
		return int(z>>33) % modulo
	}
	for range count {
		p := impl.Puzzle{People: b.people}
		party := next(len(b.parties))
		isTrue := next(4) > 0
		for range next(impl.MaxClues + 1) {
			c := b.clues[next(len(b.clues))]
			if isTrue {
				c = toldOf(c, b.parties[party])
			}
			p.Clues = append(p.Clues, c)
		}
		list = append(list, p)
	}
	return list
}

// fullPuzzle returns a puzzle with MaxClues clues that a party fits, one for each of some pairs.
func fullPuzzle(p impl.Party) impl.Puzzle {
	full := impl.Puzzle{People: p.People}
	for a := range p.People {
		for c := a + 1; c < p.People && len(full.Clues) < impl.MaxClues; c++ {
			full.Clues = append(full.Clues, toldOf(impl.Clue{A: a, B: c}, p))
		}
	}
	return full
}

// eachPuzzle shows puzzles of all numbers of people to visit: all those of few clues, where there are not too many, and some of more.
func eachPuzzle(visit func(book, impl.Puzzle)) {
	for n, count := range []int{1: 100, 2: 200, 3: 400, 4: 400, 5: 200} {
		if n == 0 {
			continue
		}
		b := bookOf(n)
		visit(b, impl.Puzzle{People: n})
		for _, c := range b.clues {
			visit(b, impl.Puzzle{People: n, Clues: []impl.Clue{c}})
			for _, d := range b.clues {
				if n <= 3 {
					visit(b, impl.Puzzle{People: n, Clues: []impl.Clue{c, d}})
				}
			}
		}
		for _, p := range b.mixedPuzzles(count) {
			visit(b, p)
		}
		for i, p := range b.parties {
			if i%100 == 0 {
				visit(b, fullPuzzle(p))
			}
		}
	}
}

// TestSolutionsFitAllClues is the first half of promise 9: solutions, and no other parties, fit all clues, and are told in order.
func TestSolutionsFitAllClues(t *testing.T) {
	eachPuzzle(func(b book, p impl.Puzzle) {
		text, _ := impl.PuzzleText(p)
		want := b.solutions(p.Clues, 0)
		solutions, ok := impl.Solutions(p)
		if len(want) > impl.MaxSolutions {
			if ok || solutions != nil {
				t.Error("Solutions", text, len(solutions), ok)
			}
		} else if !ok || !slices.EqualFunc(solutions, want, sameParty) {
			t.Error("Solutions", text, solutions, ok, "not", want)
		}
		for _, q := range solutions {
			for _, c := range p.Clues {
				fit, ok := impl.DoesFit(c, q)
				wantIs(t, "DoesFit of "+text, fit, ok, true)
			}
		}
		count, ok := impl.CountSolutions(p)
		wantNumber(t, "CountSolutions of "+text, count, ok, len(want))
		solved, ok := impl.IsSolved(p)
		wantIs(t, "IsSolved of "+text, solved, ok, len(want) == 1)
		first, ok := impl.FirstSolution(p)
		if ok != (len(want) > 0) || ok && !sameParty(first, want[0]) || !ok && !isZeroParty(first) {
			t.Error("FirstSolution", text, first, ok)
		}
	})
}

// TestCluesOfAllParties holds each clue against each party of as many people.
func TestCluesOfAllParties(t *testing.T) {
	for n := 1; n <= impl.MaxGuests; n++ {
		b := bookOf(n)
		for _, c := range b.clues {
			for i, p := range b.parties {
				fit, ok := impl.DoesFit(c, p)
				if !ok || fit != b.fit[c][i] {
					t.Error("DoesFit", c, p, fit, ok, "not", b.fit[c][i])
				}
			}
		}
	}
}

// TestCluesOfOtherNumbers holds clues against parties of more or fewer people: where they are no clues of so many, they fail.
func TestCluesOfOtherNumbers(t *testing.T) {
	for n := 1; n <= impl.MaxGuests; n++ {
		for _, c := range bookOf(n).clues {
			for people := 0; people <= impl.MaxPeople; people++ {
				p := impl.Party{People: people}
				want := isClueByWords(people, c)
				if fit, ok := impl.DoesFit(c, p); ok != want || fit != (want && toldOf(c, p) == c) {
					t.Error("DoesFit", c, p, fit, ok)
				}
			}
		}
	}
}

// TestSurePairsAreInAllSolutions counts in how many solutions the two of each pair are friends.
func TestSurePairsAreInAllSolutions(t *testing.T) {
	eachPuzzle(func(b book, p impl.Puzzle) {
		text, _ := impl.PuzzleText(p)
		solutions := b.solutions(p.Clues, 0)
		var friends [impl.MaxPeople][impl.MaxPeople]int
		for _, q := range solutions {
			for _, x := range q.Pairs {
				friends[x.A][x.B]++
			}
		}
		sure, strange := []int{}, []int{}
		for a := range p.People {
			for c := a + 1; c < p.People; c++ {
				switch friends[a][c] {
				case len(solutions):
					sure = append(sure, a, c)
				case 0:
					strange = append(strange, a, c)
				}
			}
		}
		if len(solutions) == 0 {
			sure, strange = none, none
		}
		pairs, ok := impl.SurePairs(p)
		wantPairs(t, "SurePairs of "+text, pairs, ok, sure)
		pairs, ok = impl.SureStrangers(p)
		wantPairs(t, "SureStrangers of "+text, pairs, ok, strange)
	})
}

// TestCluesLeftOut leaves out clues, one alone, and all behind each one.
func TestCluesLeftOut(t *testing.T) {
	eachPuzzle(func(b book, p impl.Puzzle) {
		text, _ := impl.PuzzleText(p)
		all := len(b.solutions(p.Clues, 0))
		var needless, left []int
		for k := range len(p.Clues) + 1 {
			left = append(left, len(b.solutions(p.Clues[:k], 0)))
		}
		for k, c := range p.Clues {
			if len(b.solutions(p.Clues, 1<<k)) == all {
				needless = append(needless, k)
			}
			dropped, ok := impl.DropClue(p, k)
			want := slices.Delete(slices.Clone(p.Clues), k, k+1)
			if !ok || dropped.People != p.People || !slices.Equal(dropped.Clues, want) {
				t.Error("DropClue", text, k, dropped, ok)
			}
			added, ok := impl.AddClue(dropped, c)
			if !ok || added.People != p.People || !slices.Equal(added.Clues, append(want, c)) {
				t.Error("AddClue", dropped, c, added, ok)
			}
		}
		list, ok := impl.NeedlessClues(p)
		wantList(t, "NeedlessClues of "+text, list, ok, needless)
		list, ok = impl.LeftByClues(p)
		wantList(t, "LeftByClues of "+text, list, ok, left)
	})
}

// TestHarderPuzzlesAreSolvedBySameParty is the other half of promise 9.
func TestHarderPuzzlesAreSolvedBySameParty(t *testing.T) {
	taken, solved := 0, 0
	eachPuzzle(func(b book, p impl.Puzzle) {
		text, _ := impl.PuzzleText(p)
		solutions := b.solutions(p.Clues, 0)
		harder, ok := impl.HarderPuzzle(p)
		if len(solutions) != 1 {
			wantPuzzle(t, "HarderPuzzle of "+text, harder, ok, "")
			return
		}
		var out uint
		for k := range p.Clues {
			if len(b.solutions(p.Clues, out|1<<k)) == 1 {
				out |= 1 << k
			}
		}
		want := impl.Puzzle{People: p.People}
		for k, c := range p.Clues {
			if out>>k&1 == 0 {
				want.Clues = append(want.Clues, c)
			}
		}
		if !ok || !samePuzzle(harder, want) {
			t.Error("HarderPuzzle", text, harder, ok, "not", want)
		}
		if list, ok := impl.Solutions(harder); !ok || !slices.EqualFunc(list, solutions, sameParty) {
			t.Error("HarderPuzzle", text, harder, "has the solutions", list, ok, "not", solutions)
		}
		needless, ok := impl.NeedlessClues(harder)
		wantList(t, "NeedlessClues of what HarderPuzzle makes of "+text, needless, ok, nil)
		again, ok := impl.HarderPuzzle(harder)
		if !ok || !samePuzzle(again, harder) {
			t.Error("HarderPuzzle of", harder, again, ok)
		}
		solved++
		taken += bits.OnesCount(out)
	})
	if solved < 200 || taken < 200 {
		t.Error("just", taken, "clues of", solved, "solved puzzles are taken out")
	}
}

// solvedPuzzles returns puzzles of a party with a clue for each pair, so far as there is room, and then its numbers of friends.
func solvedPuzzles(p impl.Party) []impl.Puzzle {
	full := fullPuzzle(p)
	numbers := impl.Puzzle{People: p.People, Clues: slices.Clone(full.Clues[:min(len(full.Clues), 3)])}
	for a := range p.People {
		numbers.Clues = append(numbers.Clues, toldOf(impl.Clue{Kind: 2, A: a}, p))
	}
	return []impl.Puzzle{full, numbers}
}

// TestPuzzlesOfAllParties makes puzzles of all parties: whichever of them are solved are solved by that party, the harder ones, too.
func TestPuzzlesOfAllParties(t *testing.T) {
	for n := 1; n <= impl.MaxGuests; n++ {
		for _, p := range allParties(n) {
			for _, x := range solvedPuzzles(p) {
				harder, ok := impl.HarderPuzzle(x)
				if !ok {
					continue
				}
				first, _ := impl.FirstSolution(x)
				again, fine := impl.FirstSolution(harder)
				solved, _ := impl.IsSolved(harder)
				if !fine || !solved || !sameParty(first, p) || !sameParty(again, p) {
					t.Error("HarderPuzzle", x, harder, "is solved by", again, "not by", p)
				}
			}
			// With a clue for each pair nothing else is left.
			if solved, _ := impl.IsSolved(fullPuzzle(p)); solved != (n < 5) {
				t.Error("IsSolved", fullPuzzle(p), solved)
			}
		}
	}
}

// madeStepByStep makes a puzzle from the list of all its numbers.
func madeStepByStep(p impl.Party, clues int, seed int) impl.Puzzle {
	var numbers []int
	for range 3 * clues {
		seed = (seed*173 + 3571) % 10007
		numbers = append(numbers, seed)
	}
	made := impl.Puzzle{People: p.People}
	for len(made.Clues) < clues {
		c := impl.Clue{Kind: numbers[0] % 6}
		numbers = numbers[1:]
		if c.Kind <= 2 {
			c.A = numbers[0] % p.People
			numbers = numbers[1:]
		}
		if c.Kind <= 1 {
			c.B = (numbers[0]%(p.People-1) + c.A + 1) % p.People
			numbers = numbers[1:]
			if c.A > c.B {
				c.A, c.B = c.B, c.A
			}
		}
		made.Clues = append(made.Clues, toldOf(c, p))
	}
	return made
}

// checkMade holds a made puzzle against its numbers, and its clues against the party.
func checkMade(t *testing.T, p impl.Party, clues int, seed int) {
	t.Helper()
	want := madeStepByStep(p, clues, seed)
	made, ok := impl.MakePuzzle(p, clues, seed)
	if !ok || !samePuzzle(made, want) || !impl.IsPuzzle(made) {
		t.Error("MakePuzzle", p, clues, seed, made, ok, "not", want)
	}
	for _, c := range made.Clues {
		fit, ok := impl.DoesFit(c, p)
		wantIs(t, "DoesFit of a made clue", fit, ok, true)
	}
}

func TestMadePuzzles(t *testing.T) {
	for n := 2; n <= impl.MaxGuests; n++ {
		for i, p := range allParties(n) {
			for clues := 0; clues <= impl.MaxClues; clues++ {
				for _, seed := range []int{0, 1, 9998, 9999, i * 7, 5000 + i*3} {
					checkMade(t, p, clues, seed)
				}
			}
		}
	}
	p := mustParse(t, "5:0-1,0-2,1-2,3-4")
	for seed := 0; seed <= 9999; seed++ {
		checkMade(t, p, impl.MaxClues, seed)
	}
}

// TestNoPuzzleHasJustMaxSolutions shows that 195 and 205 solutions are the numbers next to the limit, so that the tries of these two are enough.
func TestNoPuzzleHasJustMaxSolutions(t *testing.T) {
	b := bookOf(impl.MaxGuests)
	found := map[int]bool{}
	var look func(from int, parties []int, clues int)
	look = func(from int, parties []int, clues int) {
		found[len(parties)] = true
		if clues == impl.MaxClues || len(parties) < 195 {
			return
		}
		for i := from; i < len(b.clues); i++ {
			misfits := func(k int) bool { return !b.fit[b.clues[i]][k] }
			// A clue that leaves all parties is no step.
			if left := slices.DeleteFunc(slices.Clone(parties), misfits); len(left) < len(parties) {
				look(i+1, left, clues+1)
			}
		}
	}
	look(0, counted(len(b.parties)), 0)
	for count := 195; count <= 205; count++ {
		if found[count] != (count == 195 || count == 205) {
			t.Error("there are puzzles with", count, "solutions:", found[count])
		}
	}
}

func TestPuzzleTextsOfAllPuzzles(t *testing.T) {
	taken := map[string]bool{}
	check := func(p impl.Puzzle) {
		text, ok := impl.PuzzleText(p)
		if !ok || strings.Count(text, ".") != 2*len(p.Clues) {
			t.Errorf("PuzzleText %v: %q %v", p, text, ok)
		}
		taken[text] = true
		if q, ok := impl.ParsePuzzle(text); !ok || !samePuzzle(p, q) {
			t.Errorf("ParsePuzzle(%q): %v %v", text, q, ok)
		}
	}
	count := 0
	for n := 1; n <= impl.MaxGuests; n++ {
		b := bookOf(n)
		check(impl.Puzzle{People: n})
		for _, c := range b.clues {
			check(impl.Puzzle{People: n, Clues: []impl.Clue{c}})
			for _, d := range b.clues {
				check(impl.Puzzle{People: n, Clues: []impl.Clue{c, d}})
			}
		}
		count += 1 + len(b.clues) + len(b.clues)*len(b.clues)
		if len(taken) != count {
			t.Error("puzzles of at most", n, "people have", len(taken), "texts, not", count)
		}
	}
	eachPuzzle(func(b book, p impl.Puzzle) { check(p) })
}

// puzzleValues returns the values with which the functions of chapter 9 are tried: right ones and others.
func puzzleValues(t *testing.T) map[reflect.Type][]reflect.Value {
	values := map[reflect.Type][]reflect.Value{}
	for _, x := range manyPuzzlesTold() {
		addValues(values, mustParsePuzzle(t, x.puzzle))
	}
	for _, s := range []string{"5:", "4:", "5:4.2.0", "5:3.6.0,5.1.0", "5:2.0.4,2.1.4,2.2.4,2.3.4,2.4.4,3.10.0,4.10.0,5.1.0"} {
		addValues(values, mustParsePuzzle(t, s))
	}
	addValues(values, wrongPuzzles()...)
	for _, s := range []string{"0:", "1:", "2:", "2:0-1", "3:0-1,1-2", "4:0-1,0-2,0-3,1-2", "5:", "5:0-1,0-4,1-2,2-3,3-4", "6:0-5", "12:"} {
		addValues(values, mustParse(t, s))
	}
	addValues(values, wrongParties()...)
	for n := 1; n <= impl.MaxGuests; n += 2 {
		addValues(values, wrongClues(n)...)
	}
	addValues(values, impl.Clue{Kind: 0, A: 0, B: 1}, impl.Clue{Kind: 1, A: 1, B: 2}, impl.Clue{Kind: 2}, impl.Clue{Kind: 2, A: 4, B: 4}, impl.Clue{Kind: 3, A: 1}, impl.Clue{Kind: 4, A: 10}, impl.Clue{Kind: 5, A: 1}, impl.Clue{Kind: 5, A: 5})
	addValues(values, math.MinInt, -1, 0, 1, 2, 5, 7, 8, 9, 9999, 10000, math.MaxInt)
	addValues(values, "", ":", "1:", "3:3.2.0,1.0.1", eightClues, "3:3.2.0,", "3:6.0.0", "6:", "1:2.0.0\xff", "x", "\x00:\x00.\x00.\x00", "1:"+strings.Repeat(",", 100))
	return values
}

func TestPuzzleCallsKeepTheirArguments(t *testing.T) {
	values := puzzleValues(t)
	for _, f := range []struct {
		name string
		call any
	}{
		{"IsClue", impl.IsClue},
		{"IsPuzzle", impl.IsPuzzle},
		{"DoesFit", impl.DoesFit},
		{"Solutions", impl.Solutions},
		{"CountSolutions", impl.CountSolutions},
		{"FirstSolution", impl.FirstSolution},
		{"SurePairs", impl.SurePairs},
		{"SureStrangers", impl.SureStrangers},
		{"IsSolved", impl.IsSolved},
		{"NeedlessClues", impl.NeedlessClues},
		{"DropClue", impl.DropClue},
		{"AddClue", impl.AddClue},
		{"LeftByClues", impl.LeftByClues},
		{"HarderPuzzle", impl.HarderPuzzle},
		{"MakePuzzle", impl.MakePuzzle},
		{"PuzzleText", impl.PuzzleText},
		{"ParsePuzzle", impl.ParsePuzzle},
	} {
		sweep(t, f.name, f.call, values)
	}
}
