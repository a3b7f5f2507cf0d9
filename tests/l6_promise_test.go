package tests

import (
	"math"
	"reflect"
	"slices"
	"testing"

	"loop.example/g01257/impl"
)

// colourTable tells a painting without any order: the colour of each pair, and -1 where there is none.
type colourTable [impl.MaxPainted][impl.MaxPainted]int

func emptyColours() colourTable {
	var table colourTable
	for a := range table {
		for b := range table[a] {
			table[a][b] = -1
		}
	}
	return table
}

func colourTableOf(x impl.Painting) colourTable {
	table := emptyColours()
	i := 0
	for a := 0; a < x.People; a++ {
		for b := a + 1; b < x.People; b++ {
			table[a][b] = x.Colour[i]
			table[b][a] = x.Colour[i]
			i++
		}
	}
	return table
}

func paintingOfTable(n int, colours int, table colourTable) impl.Painting {
	x := impl.Painting{People: n, Colours: colours}
	for a := 0; a < n; a++ {
		for b := a + 1; b < n; b++ {
			x.Colour = append(x.Colour, table[a][b])
		}
	}
	return x
}

// areOneColour reports whether all pairs of a list of people have one colour.
func areOneColour(table colourTable, list []int) bool {
	for _, a := range list {
		for _, b := range list {
			if a != b && table[a][b] != table[list[0]][list[1]] {
				return false
			}
		}
	}
	return true
}

// eachPainting shows all paintings of n people with so many colours to visit, in order. The shown one changes from visit to visit.
func eachPainting(n int, colours int, visit func(impl.Painting)) {
	x := impl.Painting{People: n, Colours: colours, Colour: make([]int, n*(n-1)/2)}
	for isLeft := true; isLeft; {
		visit(x)
		isLeft = countUp(x, len(x.Colour)-1)
	}
}

// countUp makes the next painting of x, in order, that differs from it at an index or before, and reports whether there is one.
func countUp(x impl.Painting, i int) bool {
	for j := i + 1; j < len(x.Colour); j++ {
		x.Colour[j] = 0
	}
	for ; i >= 0; i-- {
		if x.Colour[i] < x.Colours-1 {
			x.Colour[i]++
			return true
		}
		x.Colour[i] = 0
	}
	return false
}

// mixedPaintings returns some paintings of n people with so many colours, the same ones each time.
func mixedPaintings(n int, colours int, count int) []impl.Painting {
	var list []impl.Painting
	z := uint64(n*10 + colours)
	for range count {
		x := impl.Painting{People: n, Colours: colours}
		z = z*6364136223846793005 + 1442695040888963407
		often := 1 + z>>40%4
		for range n * (n - 1) / 2 {
			z = z*6364136223846793005 + 1442695040888963407
			// The colour 0 is more often there, so that there are greater groups of it.
			x.Colour = append(x.Colour, max(int(z>>33%(uint64(colours)+often))-int(often), 0))
		}
		list = append(list, x)
	}
	return list
}

// somePaintings shows all paintings of few people and some of more to visit.
func somePaintings(visit func(impl.Painting)) {
	for colours := 1; colours <= impl.MaxColours; colours++ {
		for n := 0; n <= 4; n++ {
			eachPainting(n, colours, visit)
		}
		for n := 5; n <= impl.MaxPainted; n++ {
			for _, x := range mixedPaintings(n, colours, 100) {
				visit(x)
			}
		}
	}
	eachPainting(5, 2, visit)
}

// oneColourLists returns all increasing lists of so many people all pairs of whom have one colour, in order.
func oneColourLists(x impl.Painting, size int) [][]int {
	table := colourTableOf(x)
	var lists [][]int
	for _, list := range allChoices(x.People) {
		if len(list) == size && areOneColour(table, list) {
			lists = append(lists, list)
		}
	}
	slices.SortFunc(lists, slices.Compare[[]int])
	return lists
}

// TestTriplesOfOneColourAreAllTold is the first half of promise 6.
func TestTriplesOfOneColourAreAllTold(t *testing.T) {
	somePaintings(func(x impl.Painting) {
		want := oneColourLists(x, 3)
		if threes, ok := impl.OneColourThrees(x); !ok || !sameLists(threes, want) {
			t.Error("OneColourThrees", x, threes, ok, "not", want)
		}
		if count, ok := impl.CountOneColour(x); !ok || count != len(want) {
			t.Error("CountOneColour", x, count, ok, "not", len(want))
		}
		all := x.People * (x.People - 1) * (x.People - 2) / 6
		if mixed, ok := impl.CountMixed(x); !ok || mixed != all-len(want) {
			t.Error("CountMixed", x, mixed, ok, "not", all-len(want))
		}
	})
}

// TestMixedTriplesByNumbers holds the mixed triples of two colours against half the sum of the pairs of the one colour times those of the other one.
func TestMixedTriplesByNumbers(t *testing.T) {
	somePaintings(func(x impl.Painting) {
		if x.Colours != 2 {
			return
		}
		sum := 0
		for _, row := range colourTableOf(x) {
			var pairs [2]int
			for _, colour := range row {
				if colour >= 0 {
					pairs[colour]++
				}
			}
			sum += pairs[0] * pairs[1]
		}
		if mixed, ok := impl.CountMixed(x); !ok || 2*mixed != sum {
			t.Error("CountMixed", x, mixed, ok, "not half of", sum)
		}
	})
}

// TestNoPaintingHasFewerThrees is the other half of promise 6, for all paintings with two colours of at most six people.
func TestNoPaintingHasFewerThrees(t *testing.T) {
	for n := 0; n <= 6; n++ {
		fewest := math.MaxInt
		eachPainting(n, 2, func(x impl.Painting) {
			count, ok := impl.CountOneColour(x)
			if !ok {
				t.Error("CountOneColour", x, "fails")
			}
			fewest = min(fewest, count)
		})
		if least, ok := impl.LeastThrees(n); !ok || least != fewest {
			t.Error("LeastThrees", n, least, ok, "not", fewest)
		}
	}
}

// TestLeastThreesAreMet makes paintings with two colours that have the least number: everybody is in as many pairs of either colour, or nearly so.
func TestLeastThreesAreMet(t *testing.T) {
	for n := 1; n <= impl.MaxPainted; n++ {
		list := repeated(n, (n-1)/2)
		if can, _ := impl.CanBe(list); !can {
			list[0]++
		}
		p, ok1 := impl.PartyOfNumbers(list)
		x, ok2 := impl.PaintingOf(p)
		count, ok3 := impl.CountOneColour(x)
		least, ok4 := impl.LeastThrees(n)
		if !ok1 || !ok2 || !ok3 || !ok4 || count != least {
			t.Error("LeastThrees", n, least, ok4, "but", x, "has", count, ok3)
		}
		for _, y := range mixedPaintings(n, 2, 200) {
			if count, ok := impl.CountOneColour(y); !ok || count < least {
				t.Error("CountOneColour", y, count, ok, "is less than", least)
			}
		}
	}
}

// TestAvoidingOfAllPaintings holds the first paintings without a triple of one colour, and how many there are, against all paintings of few people.
func TestAvoidingOfAllPaintings(t *testing.T) {
	for n := 0; n <= 5; n++ {
		for colours := 1; colours <= impl.MaxColours; colours++ {
			var want impl.Painting
			avoiding := 0
			eachPainting(n, colours, func(x impl.Painting) {
				if lastOfFirstThree(x) >= 0 {
					return
				}
				if avoiding == 0 {
					want = impl.Painting{People: n, Colours: colours, Colour: slices.Clone(x.Colour)}
				}
				avoiding++
			})
			if count, ok := impl.CountAvoiding(n, colours); !ok || count != avoiding {
				t.Error("CountAvoiding", n, colours, count, ok, "not", avoiding)
			}
			if first, ok := impl.FirstAvoiding(n, colours); ok != (avoiding > 0) || !samePainting(first, want) {
				t.Error("FirstAvoiding", n, colours, first, ok, "not", want)
			}
		}
	}
}

// lastOfFirstThree returns the least index of a pair with which, and with pairs before it, there is a triple of one colour, and -1 if there is none.
func lastOfFirstThree(x impl.Painting) int {
	table := colourTableOf(x)
	i := -1
	for a := 0; a < x.People; a++ {
		for b := a + 1; b < x.People; b++ {
			i++
			for c := 0; c < a; c++ {
				if table[a][b] == table[a][c] && table[a][b] == table[b][c] {
					return i
				}
			}
		}
	}
	return -1
}

// TestFirstAvoidingByCounting counts through the paintings in order, but leaves out those that begin as one in which a triple of one colour is complete.
func TestFirstAvoidingByCounting(t *testing.T) {
	for n := 0; n <= impl.MaxPainted; n++ {
		for colours := 1; colours <= impl.MaxColours; colours++ {
			x := impl.Painting{People: n, Colours: colours, Colour: make([]int, n*(n-1)/2)}
			isLeft := true
			for last := lastOfFirstThree(x); isLeft && last >= 0; last = lastOfFirstThree(x) {
				isLeft = countUp(x, last)
			}
			first, ok := impl.FirstAvoiding(n, colours)
			if ok != isLeft || ok && !samePainting(first, x) {
				t.Error("FirstAvoiding", n, colours, first, ok, "not", x, isLeft)
			}
			if count, fine := impl.CountOneColour(first); ok && (!fine || count != 0) {
				t.Error("CountOneColour", first, count, fine)
			}
			// With two colours there is such a painting just where the least number is 0.
			if least, _ := impl.LeastThrees(n); colours == 2 && ok != (least == 0) {
				t.Error("FirstAvoiding", n, "succeeds:", ok, "but LeastThrees is", least)
			}
		}
	}
}

// TestOneColourGroupsOfPaintings holds groups of one colour against all increasing lists.
func TestOneColourGroupsOfPaintings(t *testing.T) {
	somePaintings(func(x impl.Painting) {
		greatest := 0
		for size := 2; size <= impl.MaxPainted; size++ {
			lists := oneColourLists(x, size)
			group, ok := impl.OneColourGroup(x, size)
			if ok != (len(lists) > 0) || ok && !slices.Equal(group, lists[0]) || !ok && group != nil {
				t.Error("OneColourGroup", x, size, group, ok, "not the first one of", lists)
			}
			if len(lists) > 0 {
				greatest = size
			}
		}
		if most, ok := impl.MostOneColour(x); ok != (x.People > 1) || most != greatest {
			t.Error("MostOneColour", x, most, ok, "not", greatest)
		}
	})
}

// TestPartiesOfColours holds the parties of all colours of a painting against its table: together they have each pair just once. Of two colours, the one party is the OtherParty of the other one.
func TestPartiesOfColours(t *testing.T) {
	somePaintings(func(x impl.Painting) {
		table := colourTableOf(x)
		for colour := range x.Colours {
			var friends friendTable
			for a := range x.People {
				for b := range x.People {
					friends[a][b] = table[a][b] == colour
				}
			}
			want := partyOfTable(x.People, friends)
			if p, ok := impl.PartyOfColour(x, colour); !ok || !sameParty(p, want) {
				t.Error("PartyOfColour", x, colour, p, ok, "not", want)
			}
		}
		if x.Colours != 2 {
			return
		}
		zero, _ := impl.PartyOfColour(x, 0)
		one, _ := impl.PartyOfColour(x, 1)
		if q, ok := impl.OtherParty(zero); !ok || !sameParty(q, one) {
			t.Error("PartyOfColour", x, zero, one)
		}
		if y, ok := impl.PaintingOf(zero); !ok || !samePainting(y, x) {
			t.Error("PaintingOf", zero, y, ok, "not", x)
		}
	})
}

// TestPaintingsOfAllParties goes from parties to paintings and back.
func TestPaintingsOfAllParties(t *testing.T) {
	parties := append(smallParties(5), mixedParties(7, 50)...)
	for _, p := range append(parties, mixedParties(8, 50)...) {
		x, ok := impl.PaintingOf(p)
		if !ok || !impl.IsPainting(x) || x.People != p.People || x.Colours != 2 {
			t.Error("PaintingOf", p, x, ok)
		}
		friends := tableOf(p)
		for a, row := range colourTableOf(x) {
			for b, colour := range row {
				if colour >= 0 && (colour == 0) != friends[a][b] {
					t.Error("PaintingOf", p, x, "paints", a, b, colour)
				}
			}
		}
		kind, _ := impl.CountByNumbers(p)
		if count, ok := impl.CountOneColour(x); !ok || count != kind {
			t.Error("CountOneColour", x, count, ok, "not", kind)
		}
	}
}

// TestPaintedPairs paints each pair with each colour: this pair has it then, and all others are as they were.
func TestPaintedPairs(t *testing.T) {
	somePaintings(func(x impl.Painting) {
		table := colourTableOf(x)
		for a := range x.People {
			for b := range x.People {
				if colour, ok := impl.ColourOf(x, a, b); ok != (a != b) || colour != max(table[a][b], 0) {
					t.Error("ColourOf", x, a, b, colour, ok)
				}
				for colour := range x.Colours {
					changed := table
					changed[a][b] = colour
					changed[b][a] = colour
					want := paintingOfTable(x.People, x.Colours, changed)
					y, ok := impl.PaintPair(x, a, b, colour)
					if ok != (a != b) || ok && !samePainting(y, want) || !ok && !isZeroPainting(y) {
						t.Error("PaintPair", x, a, b, colour, y, ok, "not", want)
					}
				}
			}
		}
	})
}

func TestExchangedColours(t *testing.T) {
	somePaintings(func(x impl.Painting) {
		count, _ := impl.CountOneColour(x)
		for c := range x.Colours {
			for d := range x.Colours {
				y, ok := impl.ExchangeColours(x, c, d)
				if !ok || !impl.IsPainting(y) || y.People != x.People || y.Colours != x.Colours {
					t.Error("ExchangeColours", x, c, d, y, ok)
					continue
				}
				to := []int{0, 1, 2}
				to[c], to[d] = d, c
				for i, colour := range x.Colour {
					if y.Colour[i] != to[colour] {
						t.Error("ExchangeColours", x, c, d, y)
					}
				}
				if now, ok := impl.CountOneColour(y); !ok || now != count {
					t.Error("CountOneColour", y, now, ok, "not", count)
				}
			}
		}
	})
}

// checkRenamedPainting holds a renamed painting against the table of the old one.
func checkRenamedPainting(t *testing.T, x impl.Painting, names []int) {
	t.Helper()
	table, renamed := colourTableOf(x), emptyColours()
	for a := range x.People {
		for b := range x.People {
			renamed[names[a]][names[b]] = table[a][b]
		}
	}
	want := paintingOfTable(x.People, x.Colours, renamed)
	if y, ok := impl.RenamePainting(x, names); !ok || !samePainting(y, want) {
		t.Error("RenamePainting", x, names, y, ok, "not", want)
	}
	// Whatever the names, the people of each colour are renamed as in a party.
	y, _ := impl.RenamePainting(x, names)
	for colour := range x.Colours {
		p, _ := impl.PartyOfColour(x, colour)
		q, _ := impl.PartyOfColour(y, colour)
		if r, ok := impl.RenameParty(p, names); !ok || !sameParty(q, r) {
			t.Error("RenamePainting", x, names, y, "has the party", q, "not", r)
		}
	}
}

func TestRenamedPaintings(t *testing.T) {
	for n := 0; n <= 4; n++ {
		for _, names := range allOrders(n) {
			eachPainting(n, 2, func(x impl.Painting) { checkRenamedPainting(t, x, names) })
			for _, x := range mixedPaintings(n, 3, 10) {
				checkRenamedPainting(t, x, names)
			}
		}
	}
	for i, names := range allOrders(6) {
		list := []int{7, 0}
		for _, a := range names {
			list = append(list, a+1)
		}
		if i%10 == 0 {
			checkRenamedPainting(t, mixedPaintings(8, 3, 1)[0], list)
		}
	}
}

func TestPaintingTextsOfAllPaintings(t *testing.T) {
	taken := map[string]bool{}
	for colours := 1; colours <= impl.MaxColours; colours++ {
		for n := 0; n <= 4; n++ {
			eachPainting(n, colours, func(x impl.Painting) {
				text, ok := impl.PaintingText(x)
				if !ok || taken[text] {
					t.Errorf("PaintingText %v: %q %v", x, text, ok)
				}
				taken[text] = true
				if y, ok := impl.ParsePainting(text); !ok || !samePainting(x, y) {
					t.Errorf("ParsePainting(%q): %v %v", text, y, ok)
				}
			})
		}
	}
}

// paintValues returns the values with which the functions of chapter 6 are tried: right ones and others.
func paintValues(t *testing.T) map[reflect.Type][]reflect.Value {
	values := map[reflect.Type][]reflect.Value{}
	for _, s := range []string{"0:1:", "0:3:", "1:2:", "2:1:0", "2:3:2", "3:1:000", "3:3:012", "5:2:0011101100", "6:3:111111222222222", "8:1:0000000000000000000000000000", "8:3:0000011112200212002100100002"} {
		addValues(values, mustParsePainting(t, s))
	}
	addValues(values, mixedPaintings(8, 2, 1)...)
	addValues(values, wrongPaintings()...)
	for _, s := range []string{"0:", "1:", "2:0-1", "3:0-1,1-2", "8:0-7,1-6,2-5,3-4", "9:0-8", "12:"} {
		addValues(values, mustParse(t, s))
	}
	addValues(values, wrongParties()...)
	addValues(values, math.MinInt, -1, 0, 1, 2, 3, 4, 7, 8, 9, 100, 101, math.MaxInt)
	addValues(values, nil, []int{}, []int{0}, []int{1}, []int{0, 1}, []int{1, 0}, []int{0, 0}, []int{2, 0, 1}, []int{0, 1, 3}, []int{4, 3, 2, 1, 0}, []int{5, 0, 4, 1, 3, 2}, []int{7, 6, 5, 4, 3, 2, 1, 0}, []int{-1, 0}, []int{math.MinInt, math.MaxInt}, counted(9), repeated(100, 1))
	addValues(values, "", ":", "::", "0:1:", "1:3:", "2:2:1", "5:2:0011101100", "2:2:2", "2:2:11", "9:1:000000000000000000000000000000000000", "x", "2:2:\xff", "\x00:\x00:\x00")
	return values
}

func TestPaintCallsKeepTheirArguments(t *testing.T) {
	values := paintValues(t)
	for _, f := range []struct {
		name string
		call any
	}{
		{"IsPainting", impl.IsPainting},
		{"ColourOf", impl.ColourOf},
		{"PaintPair", impl.PaintPair},
		{"PaintingOf", impl.PaintingOf},
		{"PartyOfColour", impl.PartyOfColour},
		{"OneColourThrees", impl.OneColourThrees},
		{"CountOneColour", impl.CountOneColour},
		{"CountMixed", impl.CountMixed},
		{"LeastThrees", impl.LeastThrees},
		{"FirstAvoiding", impl.FirstAvoiding},
		{"CountAvoiding", impl.CountAvoiding},
		{"ExchangeColours", impl.ExchangeColours},
		{"RenamePainting", impl.RenamePainting},
		{"OneColourGroup", impl.OneColourGroup},
		{"MostOneColour", impl.MostOneColour},
		{"PaintingText", impl.PaintingText},
		{"ParsePainting", impl.ParsePainting},
	} {
		sweep(t, f.name, f.call, values)
	}
}
