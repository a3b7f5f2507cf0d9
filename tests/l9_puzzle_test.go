package tests

import (
	"math"
	"slices"
	"strings"
	"testing"

	"loop.example/g01257/impl"
)

// eightClues is a puzzle with MaxClues clues of MaxGuests people that has four solutions.
const eightClues = "5:0.0.1,1.0.2,0.0.3,1.0.4,0.1.2,1.1.3,0.1.4,1.2.3"

func mustParsePuzzle(t *testing.T, s string) impl.Puzzle {
	t.Helper()
	p, ok := impl.ParsePuzzle(s)
	if !ok {
		t.Fatalf("ParsePuzzle(%q) fails", s)
	}
	return p
}

// wantPuzzle holds a puzzle against its text, which is empty if the call shall fail.
func wantPuzzle(t *testing.T, what string, p impl.Puzzle, ok bool, want string) {
	t.Helper()
	if want == "" {
		if ok || !isZeroPuzzle(p) {
			t.Error(what, p, ok, "not failed")
		}
		return
	}
	text, fine := impl.PuzzleText(p)
	if !ok || !fine || text != want {
		t.Errorf("%s: %q %v, not %q", what, text, ok, want)
	}
}

func samePuzzle(p impl.Puzzle, q impl.Puzzle) bool {
	return p.People == q.People && slices.Equal(p.Clues, q.Clues)
}

func isZeroPuzzle(p impl.Puzzle) bool {
	return p.People == 0 && len(p.Clues) == 0
}

// isClueByWords tells what the document says of clues, kind by kind.
func isClueByWords(n int, c impl.Clue) bool {
	if n < 1 || n > 5 {
		return false
	}
	isNumber := func(number int, most int) bool { return number >= 0 && number <= most }
	switch c.Kind {
	case 0, 1:
		return isNumber(c.A, n-1) && isNumber(c.B, n-1) && c.A < c.B
	case 2:
		return isNumber(c.A, n-1) && isNumber(c.B, n-1)
	case 3:
		return isNumber(c.A, n*(n-1)/2) && c.B == 0
	case 4:
		return isNumber(c.A, 10) && c.B == 0
	case 5:
		return isNumber(c.A, n) && c.A > 0 && c.B == 0
	}
	return false
}

// wrongClues returns clues that are none of so many people.
func wrongClues(n int) []impl.Clue {
	return []impl.Clue{
		{Kind: -1}, {Kind: 6, A: 1}, {Kind: -1, A: 0, B: 1}, {Kind: 6, A: 0, B: 1}, {Kind: math.MinInt, B: 1}, {Kind: math.MaxInt, B: 1},
		{Kind: 0}, {Kind: 1}, {Kind: 0, A: n - 1, B: n - 1}, {Kind: 0, A: n - 1, B: n}, {Kind: 1, A: n - 1, B: n}, {Kind: 0, A: 1, B: 0}, {Kind: 1, A: 1, B: 0}, {Kind: 0, A: n - 1, B: n - 2},
		{Kind: 0, A: -1, B: 0}, {Kind: 1, A: -1, B: 0}, {Kind: 0, A: -2, B: -1}, {Kind: 1, A: math.MinInt, B: 0}, {Kind: 0, A: 0, B: math.MaxInt},
		{Kind: 2, A: -1}, {Kind: 2, A: n}, {Kind: 2, A: 0, B: n}, {Kind: 2, A: 0, B: -1}, {Kind: 2, A: n - 1, B: n}, {Kind: 2, A: math.MaxInt}, {Kind: 2, B: math.MinInt},
		{Kind: 3, A: -1}, {Kind: 3, A: n*(n-1)/2 + 1}, {Kind: 3, A: 0, B: 1}, {Kind: 3, A: 0, B: -1}, {Kind: 3, A: math.MaxInt}, {Kind: 3, A: math.MinInt},
		{Kind: 4, A: -1}, {Kind: 4, A: 11}, {Kind: 4, A: 0, B: 1}, {Kind: 4, A: 10, B: -1}, {Kind: 4, A: math.MaxInt}, {Kind: 4, A: math.MinInt},
		{Kind: 5}, {Kind: 5, A: n + 1}, {Kind: 5, A: -1}, {Kind: 5, A: 1, B: 1}, {Kind: 5, A: 1, B: -1}, {Kind: 5, A: math.MaxInt}, {Kind: 5, A: math.MinInt}, {Kind: 5, A: 1, B: math.MaxInt},
	}
}

// wrongPuzzles returns values that are no puzzles.
func wrongPuzzles() []impl.Puzzle {
	one := impl.Clue{Kind: 4}
	nine := slices.Repeat([]impl.Clue{one}, 9)
	list := []impl.Puzzle{
		{}, {People: -1}, {People: 6}, {People: 7}, {People: 12}, {People: math.MinInt}, {People: math.MaxInt},
		{Clues: []impl.Clue{one}}, {Clues: []impl.Clue{{Kind: 3}}}, {People: 6, Clues: []impl.Clue{one}}, {People: -1, Clues: []impl.Clue{one}}, {People: 6, Clues: []impl.Clue{{Kind: 0, A: 4, B: 5}}},
		{People: 1, Clues: nine}, {People: 5, Clues: nine}, {People: 3, Clues: make([]impl.Clue, 1000)},
	}
	for n := 1; n <= 5; n++ {
		for _, c := range wrongClues(n) {
			list = append(list, impl.Puzzle{People: n, Clues: []impl.Clue{c}})
		}
		list = append(list, impl.Puzzle{People: n, Clues: []impl.Clue{one, {Kind: 6}}}, impl.Puzzle{People: n, Clues: append(slices.Clone(nine[:7]), impl.Clue{Kind: 5, A: n + 1})})
	}
	return list
}

func TestIsClue(t *testing.T) {
	numbers := append([]int{4, 5, 9, 10}, extremes...)
	for _, n := range numbers {
		for _, kind := range numbers {
			for _, a := range numbers {
				for _, b := range numbers {
					c := impl.Clue{Kind: kind, A: a, B: b}
					if is := impl.IsClue(n, c); is != isClueByWords(n, c) {
						t.Error("IsClue", n, c, is)
					}
				}
			}
		}
	}
	for n := 1; n <= impl.MaxGuests; n++ {
		for _, c := range wrongClues(n) {
			if impl.IsClue(n, c) {
				t.Error("IsClue", n, c)
			}
		}
	}
}

// TestCluesAreCounted counts the clues of each kind.
func TestCluesAreCounted(t *testing.T) {
	for n, want := range [][]int{1: {0, 0, 1, 1, 11, 1}, 2: {1, 1, 4, 2, 11, 2}, 3: {3, 3, 9, 4, 11, 3}, 4: {6, 6, 16, 7, 11, 4}, 5: {10, 10, 25, 11, 11, 5}} {
		counts := make([]int, len(want))
		for kind := range counts {
			for a := -20; a < 20; a++ {
				for b := -20; b < 20; b++ {
					if impl.IsClue(n, impl.Clue{Kind: kind, A: a, B: b}) {
						counts[kind]++
					}
				}
			}
		}
		if !slices.Equal(counts, want) {
			t.Error(n, "people have clues", counts, "not", want)
		}
	}
}

func TestIsPuzzle(t *testing.T) {
	for _, p := range []impl.Puzzle{
		{People: 1}, {People: 5}, {People: 1, Clues: []impl.Clue{}},
		{People: 1, Clues: []impl.Clue{{Kind: 2}, {Kind: 3}, {Kind: 4, A: 10}, {Kind: 5, A: 1}}},
		{People: 2, Clues: []impl.Clue{{Kind: 0, A: 0, B: 1}, {Kind: 1, A: 0, B: 1}, {Kind: 2, A: 1, B: 1}}},
		{People: 5, Clues: []impl.Clue{{Kind: 1, A: 3, B: 4}, {Kind: 2, A: 4, B: 4}, {Kind: 3, A: 10}, {Kind: 4, A: 10}, {Kind: 5, A: 5}}},
		{People: 5, Clues: slices.Repeat([]impl.Clue{{Kind: 4}}, 8)},
	} {
		if !impl.IsPuzzle(p) {
			t.Error("IsPuzzle", p, "is none")
		}
	}
	for _, p := range wrongPuzzles() {
		if impl.IsPuzzle(p) {
			t.Error("IsPuzzle", p)
		}
	}
}

func TestDoesFit(t *testing.T) {
	for _, x := range []struct {
		clue  impl.Clue
		party string
		want  bool
	}{
		{impl.Clue{Kind: 0, A: 0, B: 1}, "2:0-1", true},
		{impl.Clue{Kind: 0, A: 0, B: 1}, "2:", false},
		{impl.Clue{Kind: 1, A: 0, B: 1}, "2:0-1", false},
		{impl.Clue{Kind: 1, A: 0, B: 1}, "2:", true},
		{impl.Clue{Kind: 0, A: 3, B: 4}, "5:0-3,0-4,1-3,3-4", true},
		{impl.Clue{Kind: 1, A: 1, B: 4}, "5:0-3,0-4,1-3,3-4", true},
		{impl.Clue{Kind: 2}, "1:", true},
		{impl.Clue{Kind: 2, A: 0, B: 2}, "5:0-3,0-4,1-3,3-4", true},
		{impl.Clue{Kind: 2, A: 3, B: 3}, "5:0-3,0-4,1-3,3-4", true},
		{impl.Clue{Kind: 2, A: 3, B: 2}, "5:0-3,0-4,1-3,3-4", false},
		{impl.Clue{Kind: 2, A: 2, B: 0}, "5:0-3,0-4,1-3,3-4", true},
		{impl.Clue{Kind: 2, A: 4, B: 4}, "5:0-4,1-4,2-4,3-4", true},
		{impl.Clue{Kind: 3}, "1:", true},
		{impl.Clue{Kind: 3, A: 4}, "5:0-3,0-4,1-3,3-4", true},
		{impl.Clue{Kind: 3, A: 3}, "5:0-3,0-4,1-3,3-4", false},
		{impl.Clue{Kind: 3, A: 10}, "5:0-1,0-2,0-3,0-4,1-2,1-3,1-4,2-3,2-4,3-4", true},
		{impl.Clue{Kind: 4}, "1:", true},
		{impl.Clue{Kind: 4, A: 10}, "1:", false},
		{impl.Clue{Kind: 4, A: 1}, "5:0-3,0-4,1-3,3-4", true},
		{impl.Clue{Kind: 4, A: 0}, "5:0-1,0-4,1-2,2-3,3-4", true},
		{impl.Clue{Kind: 4, A: 1}, "5:0-1,0-4,1-2,2-3,3-4", false},
		{impl.Clue{Kind: 4, A: 10}, "5:0-1,0-2,0-3,0-4,1-2,1-3,1-4,2-3,2-4,3-4", true},
		{impl.Clue{Kind: 4, A: 4}, "4:0-1,0-2,0-3,1-2,1-3,2-3", true},
		{impl.Clue{Kind: 5, A: 1}, "1:", true},
		{impl.Clue{Kind: 5, A: 5}, "5:", true},
		{impl.Clue{Kind: 5, A: 2}, "5:0-3,0-4,1-3,3-4", true},
		{impl.Clue{Kind: 5, A: 1}, "5:0-3,0-4,1-3,3-4", false},
	} {
		fit, ok := impl.DoesFit(x.clue, mustParse(t, x.party))
		wantIs(t, "DoesFit "+x.party, fit, ok, x.want)
	}
}

func TestDoesFitFails(t *testing.T) {
	for n := 1; n <= impl.MaxGuests; n++ {
		for _, p := range []impl.Party{{People: n}, partyOfCode(n, math.MaxUint64)} {
			for _, c := range wrongClues(n) {
				if fit, ok := impl.DoesFit(c, p); ok || fit {
					t.Error("DoesFit", c, p, fit, ok)
				}
			}
		}
	}
	for _, p := range wrongParties() {
		for _, c := range []impl.Clue{{Kind: 0, A: 0, B: 1}, {Kind: 1, A: 0, B: 1}, {Kind: 2}, {Kind: 3}, {Kind: 4}, {Kind: 5, A: 1}} {
			if fit, ok := impl.DoesFit(c, p); ok || fit {
				t.Error("DoesFit", c, p, fit, ok)
			}
		}
	}
	for _, s := range []string{"0:", "6:", "6:0-1", "12:"} {
		for kind := range 6 {
			for a := range 2 {
				for b := range 2 {
					if fit, ok := impl.DoesFit(impl.Clue{Kind: kind, A: a, B: b}, mustParse(t, s)); ok || fit {
						t.Error("DoesFit", kind, a, b, s, fit, ok)
					}
				}
			}
		}
	}
}

// puzzleTold is what chapter 9 tells of a puzzle with few solutions.
type puzzleTold struct {
	puzzle    string
	solutions []string
	sure      []int
	strange   []int
	needless  []int
	left      []int
	harder    string // empty if it is not solved
}

func manyPuzzlesTold() []puzzleTold {
	allTen := []int{0, 1, 0, 2, 0, 3, 0, 4, 1, 2, 1, 3, 1, 4, 2, 3, 2, 4, 3, 4}
	return []puzzleTold{
		{"1:", []string{"1:"}, nil, nil, nil, []int{1}, "1:"},
		{"1:2.0.0,3.0.0,4.0.0,5.1.0", []string{"1:"}, nil, nil, []int{0, 1, 2, 3}, []int{1, 1, 1, 1, 1}, "1:"},
		{"1:4.1.0", nil, none, none, nil, []int{1, 0}, ""},
		{"1:4.1.0,4.10.0,5.1.0", nil, none, none, []int{0, 1, 2}, []int{1, 0, 0, 0}, ""},
		{"2:", []string{"2:", "2:0-1"}, nil, nil, nil, []int{2}, ""},
		{"2:0.0.1", []string{"2:0-1"}, []int{0, 1}, nil, nil, []int{2, 1}, "2:0.0.1"},
		{"2:1.0.1", []string{"2:"}, nil, []int{0, 1}, nil, []int{2, 1}, "2:1.0.1"},
		{"2:0.0.1,2.1.1", []string{"2:0-1"}, []int{0, 1}, nil, []int{0, 1}, []int{2, 1, 1}, "2:2.1.1"},
		{"2:2.1.1,0.0.1", []string{"2:0-1"}, []int{0, 1}, nil, []int{0, 1}, []int{2, 1, 1}, "2:0.0.1"},
		{"2:0.0.1,1.0.1", nil, none, none, nil, []int{2, 1, 0}, ""},
		{"2:0.0.1,1.0.1,3.0.0", nil, none, none, []int{1, 2}, []int{2, 1, 0, 0}, ""},
		{"3:3.2.0,1.0.1", []string{"3:0-2,1-2"}, []int{0, 2, 1, 2}, []int{0, 1}, nil, []int{8, 3, 1}, "3:3.2.0,1.0.1"},
		{"3:3.2.0", []string{"3:0-1,0-2", "3:0-1,1-2", "3:0-2,1-2"}, nil, nil, nil, []int{8, 3}, ""},
		{"3:3.3.0,0.0.1,0.0.2,0.1.2", []string{"3:0-1,0-2,1-2"}, []int{0, 1, 0, 2, 1, 2}, nil, []int{0, 1, 2, 3}, []int{8, 1, 1, 1, 1}, "3:0.0.1,0.0.2,0.1.2"},
		{"3:0.0.1,0.0.2,0.1.2,3.3.0", []string{"3:0-1,0-2,1-2"}, []int{0, 1, 0, 2, 1, 2}, nil, []int{0, 1, 2, 3}, []int{8, 4, 2, 1, 1}, "3:3.3.0"},
		{"3:4.0.0,3.2.0,1.0.1,5.1.0", []string{"3:0-2,1-2"}, []int{0, 2, 1, 2}, []int{0, 1}, []int{0, 1, 3}, []int{8, 7, 3, 1, 1}, "3:1.0.1,5.1.0"},
		{"4:2.0.3,4.1.0", []string{"4:0-1,0-2,0-3,1-2", "4:0-1,0-2,0-3,1-3", "4:0-1,0-2,0-3,2-3"}, []int{0, 1, 0, 2, 0, 3}, nil, nil, []int{64, 8, 3}, ""},
		{"4:4.4.0", []string{"4:0-1,0-2,0-3,1-2,1-3,2-3"}, []int{0, 1, 0, 2, 0, 3, 1, 2, 1, 3, 2, 3}, nil, nil, []int{64, 1}, "4:4.4.0"},
		{"4:4.3.0", nil, none, none, nil, []int{64, 0}, ""},
		{"5:3.10.0", []string{"5:0-1,0-2,0-3,0-4,1-2,1-3,1-4,2-3,2-4,3-4"}, allTen, nil, nil, []int{1024, 1}, "5:3.10.0"},
		{"5:4.10.0,4.10.0", []string{"5:0-1,0-2,0-3,0-4,1-2,1-3,1-4,2-3,2-4,3-4"}, allTen, nil, []int{0, 1}, []int{1024, 1, 1}, "5:4.10.0"},
		{"5:5.5.0", []string{"5:"}, nil, allTen, nil, []int{1024, 1}, "5:5.5.0"},
		{"5:2.0.4,3.4.0", []string{"5:0-1,0-2,0-3,0-4"}, []int{0, 1, 0, 2, 0, 3, 0, 4}, []int{1, 2, 1, 3, 1, 4, 2, 3, 2, 4, 3, 4}, nil, []int{1024, 64, 1}, "5:2.0.4,3.4.0"},
		{
			eightClues, []string{"5:0-1,0-3,1-2,1-4", "5:0-1,0-3,1-2,1-4,2-4", "5:0-1,0-3,1-2,1-4,2-4,3-4", "5:0-1,0-3,1-2,1-4,3-4"},
			[]int{0, 1, 0, 3, 1, 2, 1, 4}, []int{0, 2, 0, 4, 1, 3, 2, 3}, nil, []int{1024, 512, 256, 128, 64, 32, 16, 8, 4}, "",
		},
	}
}

func checkPuzzleTold(t *testing.T, x puzzleTold) {
	t.Helper()
	p := mustParsePuzzle(t, x.puzzle)
	solutions, ok := impl.Solutions(p)
	if !ok || len(solutions) != len(x.solutions) {
		t.Error("Solutions", x.puzzle, solutions, ok, "not", x.solutions)
		return
	}
	for i, want := range x.solutions {
		wantParty(t, "Solutions of "+x.puzzle, solutions[i], ok, want)
	}
	first, ok := impl.FirstSolution(p)
	if len(x.solutions) > 0 {
		wantParty(t, "FirstSolution of "+x.puzzle, first, ok, x.solutions[0])
	} else if ok || !isZeroParty(first) {
		t.Error("FirstSolution", x.puzzle, first, ok)
	}
	count, ok := impl.CountSolutions(p)
	wantNumber(t, "CountSolutions of "+x.puzzle, count, ok, len(x.solutions))
	sure, ok := impl.SurePairs(p)
	wantPairs(t, "SurePairs of "+x.puzzle, sure, ok, x.sure)
	sure, ok = impl.SureStrangers(p)
	wantPairs(t, "SureStrangers of "+x.puzzle, sure, ok, x.strange)
	solved, ok := impl.IsSolved(p)
	wantIs(t, "IsSolved of "+x.puzzle, solved, ok, len(x.solutions) == 1)
	list, ok := impl.NeedlessClues(p)
	wantList(t, "NeedlessClues of "+x.puzzle, list, ok, x.needless)
	list, ok = impl.LeftByClues(p)
	wantList(t, "LeftByClues of "+x.puzzle, list, ok, x.left)
	harder, ok := impl.HarderPuzzle(p)
	wantPuzzle(t, "HarderPuzzle of "+x.puzzle, harder, ok, x.harder)
}

func TestPuzzlesTold(t *testing.T) {
	for _, x := range manyPuzzlesTold() {
		checkPuzzleTold(t, x)
	}
}

// TestMaxSolutions tries puzzles near the limit of Solutions, which bounds nothing else.
func TestMaxSolutions(t *testing.T) {
	for _, x := range []struct {
		puzzle string
		count  int
	}{
		{"5:0.0.1,2.0.2", 192},
		{"5:4.2.0", 195},
		{"5:3.6.0,5.1.0", 205},
		{"5:4.0.0,5.1.0", 207},
		{"5:0.0.1,0.0.2", 256},
		{"5:", 1024},
	} {
		p := mustParsePuzzle(t, x.puzzle)
		solutions, ok := impl.Solutions(p)
		fits := x.count <= impl.MaxSolutions
		if ok != fits || fits && len(solutions) != x.count || !fits && solutions != nil {
			t.Error("Solutions", x.puzzle, len(solutions), ok)
		}
		count, ok := impl.CountSolutions(p)
		wantNumber(t, "CountSolutions of "+x.puzzle, count, ok, x.count)
		_, okFirst := impl.FirstSolution(p)
		_, okSure := impl.SurePairs(p)
		_, okStrange := impl.SureStrangers(p)
		_, okNeedless := impl.NeedlessClues(p)
		left, okLeft := impl.LeftByClues(p)
		if !okFirst || !okSure || !okStrange || !okNeedless || !okLeft || left[len(left)-1] != x.count {
			t.Error(x.puzzle, okFirst, okSure, okStrange, okNeedless, okLeft, left)
		}
		solved, ok := impl.IsSolved(p)
		wantIs(t, "IsSolved of "+x.puzzle, solved, ok, false)
	}
}

func TestDropClue(t *testing.T) {
	for _, x := range []struct {
		puzzle string
		k      int
		want   string
	}{
		{"1:", 0, ""},
		{"5:", 0, ""},
		{"1:5.1.0", 0, "1:"},
		{"1:5.1.0", 1, ""},
		{"1:5.1.0", -1, ""},
		{"3:3.2.0,1.0.1", 0, "3:1.0.1"},
		{"3:3.2.0,1.0.1", 1, "3:3.2.0"},
		{"3:3.2.0,1.0.1", 2, ""},
		{"3:3.2.0,3.2.0,1.0.1", 1, "3:3.2.0,1.0.1"},
		{eightClues, 0, "5:1.0.2,0.0.3,1.0.4,0.1.2,1.1.3,0.1.4,1.2.3"},
		{eightClues, 3, "5:0.0.1,1.0.2,0.0.3,0.1.2,1.1.3,0.1.4,1.2.3"},
		{eightClues, 7, "5:0.0.1,1.0.2,0.0.3,1.0.4,0.1.2,1.1.3,0.1.4"},
		{eightClues, 8, ""},
		{eightClues, math.MaxInt, ""},
		{eightClues, math.MinInt, ""},
	} {
		p, ok := impl.DropClue(mustParsePuzzle(t, x.puzzle), x.k)
		wantPuzzle(t, "DropClue of "+x.puzzle, p, ok, x.want)
	}
}

func TestAddClue(t *testing.T) {
	for _, x := range []struct {
		puzzle string
		clue   impl.Clue
		want   string
	}{
		{"1:", impl.Clue{Kind: 5, A: 1}, "1:5.1.0"},
		{"3:3.2.0", impl.Clue{Kind: 1, A: 0, B: 1}, "3:3.2.0,1.0.1"},
		{"3:3.2.0", impl.Clue{Kind: 3, A: 2}, "3:3.2.0,3.2.0"},
		{"2:0.0.1", impl.Clue{Kind: 1, A: 0, B: 1}, "2:0.0.1,1.0.1"},
		{"5:0.0.1,1.0.2,0.0.3,1.0.4,0.1.2,1.1.3,0.1.4", impl.Clue{Kind: 2, A: 4, B: 4}, "5:0.0.1,1.0.2,0.0.3,1.0.4,0.1.2,1.1.3,0.1.4,2.4.4"},
		{eightClues, impl.Clue{Kind: 2, A: 4, B: 4}, ""},
	} {
		p, ok := impl.AddClue(mustParsePuzzle(t, x.puzzle), x.clue)
		wantPuzzle(t, "AddClue to "+x.puzzle, p, ok, x.want)
	}
	for n := 1; n <= impl.MaxGuests; n++ {
		for _, c := range wrongClues(n) {
			p, ok := impl.AddClue(impl.Puzzle{People: n, Clues: []impl.Clue{{Kind: 4}}}, c)
			wantPuzzle(t, "AddClue", p, ok, "")
		}
	}
}

// TestAddClueKeepsWhatLiesBehind adds clues to one puzzle with room behind its clues: each result is its own.
func TestAddClueKeepsWhatLiesBehind(t *testing.T) {
	room := make([]impl.Clue, 5)
	p := impl.Puzzle{People: 3, Clues: append(room[:0], impl.Clue{Kind: 4})}
	q, _ := impl.AddClue(p, impl.Clue{Kind: 3, A: 1})
	r, _ := impl.AddClue(p, impl.Clue{Kind: 3, A: 2})
	wantPuzzle(t, "AddClue first", q, true, "3:4.0.0,3.1.0")
	wantPuzzle(t, "AddClue then", r, true, "3:4.0.0,3.2.0")
	if room[1] != (impl.Clue{}) {
		t.Error("AddClue writes behind the clues:", room)
	}
}

func TestMakePuzzle(t *testing.T) {
	for _, x := range []struct {
		party string
		clues int
		seed  int
		want  string
	}{
		{"2:", 0, 0, "2:"},
		{"5:0-1", 0, 9999, "5:"},
		// The numbers are 3571, 920, 2619: the kind 1 or 0 of the people 2 and (1 + 2 + 1) modulo 3.
		{"3:0-2", 1, 0, "3:1.1.2"},
		{"3:1-2", 1, 0, "3:0.1.2"},
		// The next ones are 6343, 140, 7777: the same clue again; then 8054 and 5940: the kind 2 of the person 0.
		{"3:0-2,1-2", 2, 0, "3:0.1.2,0.1.2"},
		{"3:0-2,1-2", 3, 0, "3:0.1.2,0.1.2,2.0.1"},
		{"2:", 8, 0, "2:1.0.1,1.0.1,2.0.0,2.1.0,5.2.0,3.0.0,5.2.0,1.0.1"},
		{"2:0-1", 8, 9999, "2:3.1.0,0.0.1,3.1.0,4.0.0,5.1.0,3.1.0,5.1.0,3.1.0"},
		{"4:0-1,0-2,0-3,1-2", 8, 1, "4:0.0.1,0.1.2,0.0.3,4.1.0,0.0.3,0.0.1,2.1.2,5.1.0"},
		{"5:0-1,0-2,1-2,3-4", 8, 17, "5:2.3.1,4.1.0,1.0.3,0.3.4,1.2.3,4.1.0,5.2.0,5.2.0"},
		{"5:0-1,0-2,0-3,0-4,1-2,1-3,1-4,2-3,2-4,3-4", 8, 77, "5:3.10.0,3.10.0,4.10.0,2.0.4,0.1.4,5.1.0,0.0.2,2.4.4"},
	} {
		p, ok := impl.MakePuzzle(mustParse(t, x.party), x.clues, x.seed)
		wantPuzzle(t, "MakePuzzle of "+x.party, p, ok, x.want)
	}
}

func TestMakePuzzleFails(t *testing.T) {
	line := mustParse(t, "3:0-1,1-2")
	for _, number := range append(extremes, 4, 5, 9, 9998, 9999, 10000, 10007) {
		p, ok := impl.MakePuzzle(line, number, 0)
		if isNumber := number >= 0 && number <= 8; ok != isNumber || ok && len(p.Clues) != number || !ok && !isZeroPuzzle(p) {
			t.Error("MakePuzzle with clues", number, p, ok)
		}
		p, ok = impl.MakePuzzle(line, 8, number)
		if isSeed := number >= 0 && number <= 9999; ok != isSeed || !ok && !isZeroPuzzle(p) {
			t.Error("MakePuzzle with the seed", number, p, ok)
		}
	}
	for n := range 13 {
		p, ok := impl.MakePuzzle(impl.Party{People: n}, 3, 7)
		if isMade := n >= 2 && n <= 5; ok != isMade || ok && p.People != n || !ok && !isZeroPuzzle(p) {
			t.Error("MakePuzzle of", n, p, ok)
		}
	}
	for _, q := range wrongParties() {
		p, ok := impl.MakePuzzle(q, 0, 0)
		wantPuzzle(t, "MakePuzzle of no party", p, ok, "")
	}
}

func TestPuzzleText(t *testing.T) {
	for _, x := range []struct {
		puzzle impl.Puzzle
		want   string
	}{
		{impl.Puzzle{People: 1}, "1:"},
		{impl.Puzzle{People: 5, Clues: []impl.Clue{}}, "5:"},
		{impl.Puzzle{People: 1, Clues: []impl.Clue{{Kind: 2}}}, "1:2.0.0"},
		{impl.Puzzle{People: 3, Clues: []impl.Clue{{Kind: 3, A: 2}, {Kind: 1, A: 0, B: 1}}}, "3:3.2.0,1.0.1"},
		{impl.Puzzle{People: 5, Clues: []impl.Clue{{Kind: 3, A: 10}, {Kind: 4, A: 10}, {Kind: 0, A: 3, B: 4}, {Kind: 5, A: 5}}}, "5:3.10.0,4.10.0,0.3.4,5.5.0"},
		{impl.Puzzle{People: 4, Clues: slices.Repeat([]impl.Clue{{Kind: 2, A: 3, B: 3}}, 8)}, "4:2.3.3,2.3.3,2.3.3,2.3.3,2.3.3,2.3.3,2.3.3,2.3.3"},
	} {
		if text, ok := impl.PuzzleText(x.puzzle); !ok || text != x.want {
			t.Errorf("PuzzleText %v: %q %v", x.puzzle, text, ok)
		}
		if p, ok := impl.ParsePuzzle(x.want); !ok || !samePuzzle(p, x.puzzle) {
			t.Errorf("ParsePuzzle(%q): %v %v", x.want, p, ok)
		}
	}
}

func TestParsePuzzleFails(t *testing.T) {
	for _, s := range []string{
		"", ":", "::", "1", "0:", "6:", "12:", "-1:", "+1:", "01:", "1 :", " 1:", "1: ", "1:\n", "1::", ":1", "x:", "1;", "1.0:", "0x1:", "1e0:", "1_0:", "\x00:", "\xff:", "\u0661:", "18446744073709551617:", "9223372036854775808:",
		"1:,", "1:.", "1:..", "1:...", "1:0", "1:0.0", "1:0.0.0", "1:2", "1:2.0", "1:2.0.", "1:2..0", "1:.0.0", "1:2.0.0.", "1:2.0.0.0", "1:.2.0.0", "1:2.0.0,", "1:,2.0.0", "1:2.0.0,,2.0.0", "1:2.0.0;2.0.0", "1:2.0.0 ", "1: 2.0.0", "1:2.0.0, 2.0.0", "1:2.0.0:", "1:2.0.0:2.0.0", "1:2,0,0", "1:2-0-0", "1.2.0.0", "12.0.0",
		"1:+2.0.0", "1:2.+0.0", "1:2.0.+0", "1:-2.0.0", "1:2.-0.0", "1:2.0.-0", "1:02.0.0", "1:2.00.0", "1:2.0.00", "1:x.0.0", "1:2.x.0", "1:2.0.x", "1:2.0.0\x00", "1:2.0.\xff", "1:18446744073709551618.0.0", "1:2.18446744073709551616.0", "1:2.0.18446744073709551616",
		"1:6.0.0", "1:6.1.0", "1:-1.0.0", "1:2.1.0", "1:2.0.1", "1:3.1.0", "1:3.0.1", "1:4.11.0", "1:4.0.1", "1:5.0.0", "1:5.2.0", "1:5.1.1", "1:0.0.1", "1:1.0.1", "1:0.0.0",
		"2:0.1.0", "2:1.1.0", "2:0.1.1", "2:0.0.2", "2:2.0.2", "2:2.2.0", "2:3.2.0", "2:5.3.0", "3:3.2.0,1.1.0", "3:3.2.0,1.0.3", "3:3.4.0,1.0.1", "5:3.11.0", "5:0.4.5", "6:3.2.0",
		"5:4.0.0,4.0.0,4.0.0,4.0.0,4.0.0,4.0.0,4.0.0,4.0.0,4.0.0", "3:3.02.0", "5:3.010.0", "5:3.10.0,4.010.0",
		strings.Repeat("1", 500), strings.Repeat(":", 500), strings.Repeat("1:", 500), "1:" + strings.Repeat(",", 500), "1:" + strings.Repeat("2.0.0,", 500) + "2.0.0", "1:" + strings.Repeat("2.0.0.", 500), "1:" + strings.Repeat(".", 500), "1:2.0." + strings.Repeat("0", 500),
	} {
		if p, ok := impl.ParsePuzzle(s); ok || !isZeroPuzzle(p) {
			t.Errorf("ParsePuzzle(%q): %v %v", s, p, ok)
		}
	}
}

// TestParsePuzzleOfChangedTexts changes one byte of right texts: what is parsed still is another text of a puzzle, and no other.
func TestParsePuzzleOfChangedTexts(t *testing.T) {
	for _, s := range changedTexts("1:", "1:2.0.0", "3:3.2.0,1.0.1", "5:3.10.0,0.3.4") {
		p, ok := impl.ParsePuzzle(s)
		if text, fine := impl.PuzzleText(p); ok && (!fine || text != s) || !ok && !isZeroPuzzle(p) {
			t.Errorf("ParsePuzzle(%q): %v %v", s, p, ok)
		}
	}
}

func TestPuzzlesFailForWrongPuzzles(t *testing.T) {
	for _, p := range wrongPuzzles() {
		solutions, ok1 := impl.Solutions(p)
		count, ok2 := impl.CountSolutions(p)
		first, ok3 := impl.FirstSolution(p)
		sure, ok4 := impl.SurePairs(p)
		strange, ok5 := impl.SureStrangers(p)
		solved, ok6 := impl.IsSolved(p)
		needless, ok7 := impl.NeedlessClues(p)
		dropped, ok8 := impl.DropClue(p, 0)
		added, ok9 := impl.AddClue(p, impl.Clue{Kind: 4})
		left, ok10 := impl.LeftByClues(p)
		harder, ok11 := impl.HarderPuzzle(p)
		text, ok12 := impl.PuzzleText(p)
		for i, ok := range []bool{ok1, ok2, ok3, ok4, ok5, ok6, ok7, ok8, ok9, ok10, ok11, ok12} {
			if ok {
				t.Error("function", i+1, "accepts", p)
			}
		}
		if solutions != nil || count != 0 || sure != nil || strange != nil || solved || needless != nil || left != nil || text != "" {
			t.Error(p, "fails with", solutions, count, sure, strange, solved, needless, left, text)
		}
		if !isZeroParty(first) || !isZeroPuzzle(dropped) || !isZeroPuzzle(added) || !isZeroPuzzle(harder) {
			t.Error(p, "fails with", first, dropped, added, harder)
		}
	}
}
