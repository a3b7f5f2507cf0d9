package tests

import (
	"math"
	"slices"
	"strings"
	"testing"

	"loop.example/g01257/impl"
)

func mustParsePainting(t *testing.T, s string) impl.Painting {
	t.Helper()
	x, ok := impl.ParsePainting(s)
	if !ok {
		t.Fatalf("ParsePainting(%q) fails", s)
	}
	return x
}

func wantPainting(t *testing.T, what string, x impl.Painting, ok bool, want string) {
	t.Helper()
	s, fine := impl.PaintingText(x)
	if !ok || !fine || s != want {
		t.Errorf("%s: %q %v, not %q", what, s, ok, want)
	}
}

func samePainting(x impl.Painting, y impl.Painting) bool {
	return x.People == y.People && x.Colours == y.Colours && slices.Equal(x.Colour, y.Colour)
}

func isZeroPainting(x impl.Painting) bool {
	return x.People == 0 && x.Colours == 0 && len(x.Colour) == 0
}

// wrongPaintings returns values that are no paintings.
func wrongPaintings() []impl.Painting {
	return []impl.Painting{
		{}, {People: 1}, {Colours: -1}, {Colours: 4}, {Colours: math.MinInt}, {Colours: math.MaxInt},
		{People: -1, Colours: 2}, {People: 2, Colours: 2}, {People: 9, Colours: 2}, {People: 12, Colours: 3},
		{People: math.MinInt, Colours: 2}, {People: math.MaxInt, Colours: 2},
		{People: -1, Colours: 2, Colour: []int{0}},
		{People: 0, Colours: 2, Colour: []int{0}},
		{People: 1, Colours: 2, Colour: []int{0}},
		{People: 2, Colours: 0, Colour: []int{0}},
		{People: 2, Colours: 4, Colour: []int{0}},
		{People: 2, Colours: 4, Colour: []int{3}},
		{People: 2, Colours: -1, Colour: []int{-2}},
		{People: 2, Colours: 1, Colour: []int{1}},
		{People: 2, Colours: 2, Colour: []int{2}},
		{People: 2, Colours: 3, Colour: []int{3}},
		{People: 2, Colours: 3, Colour: []int{-1}},
		{People: 2, Colours: 3, Colour: []int{0, 0}},
		{People: 2, Colours: 2, Colour: []int{math.MinInt}},
		{People: 2, Colours: 2, Colour: []int{math.MaxInt}},
		{People: 3, Colours: 2, Colour: []int{0, 1}},
		{People: 3, Colours: 2, Colour: []int{0, 0, 0, 0}},
		{People: 3, Colours: 2, Colour: []int{2, 0, 0}},
		{People: 3, Colours: 2, Colour: []int{0, 0, 2}},
		{People: 3, Colours: 2, Colour: []int{0, -1, 0}},
		{People: 8, Colours: 2, Colour: repeated(27, 0)},
		{People: 8, Colours: 2, Colour: repeated(29, 0)},
		{People: 8, Colours: 3, Colour: append(repeated(27, 2), 3)},
		{People: 9, Colours: 2, Colour: repeated(36, 0)},
		{People: -8, Colours: 2, Colour: repeated(36, 0)},
		{People: 13, Colours: 2, Colour: repeated(78, 0)},
		{People: 4, Colours: 2, Colour: repeated(1000, 0)},
	}
}

func TestPaintExample(t *testing.T) {
	if count, ok := impl.CountAvoiding(5, 2); !ok || count != 12 {
		t.Error("CountAvoiding of five", count, ok)
	}
	x, ok := impl.FirstAvoiding(5, 2)
	wantPainting(t, "FirstAvoiding of five", x, ok, "5:2:0011101100")
	if x, ok := impl.FirstAvoiding(6, 2); ok || !isZeroPainting(x) {
		t.Error("FirstAvoiding of six", x, ok)
	}
	if least, ok := impl.LeastThrees(6); !ok || least != 2 {
		t.Error("LeastThrees of six", least, ok)
	}
	if count, ok := impl.CountAvoiding(3, 2); !ok || count != 6 {
		t.Error("CountAvoiding of three", count, ok)
	}
	if count, ok := impl.CountAvoiding(4, 2); !ok || count != 18 {
		t.Error("CountAvoiding of four", count, ok)
	}
}

func TestPaintConstants(t *testing.T) {
	if impl.MaxPainted != 8 || impl.MaxColours != 3 {
		t.Error("MaxPainted", impl.MaxPainted, "MaxColours", impl.MaxColours)
	}
}

func TestIsPainting(t *testing.T) {
	for _, x := range []impl.Painting{
		{Colours: 1}, {Colours: 2}, {Colours: 3}, {Colours: 1, Colour: []int{}},
		{People: 1, Colours: 1}, {People: 1, Colours: 3, Colour: []int{}},
		{People: 2, Colours: 1, Colour: []int{0}},
		{People: 2, Colours: 3, Colour: []int{2}},
		{People: 3, Colours: 2, Colour: []int{0, 1, 0}},
		{People: 8, Colours: 1, Colour: repeated(28, 0)},
		{People: 8, Colours: 3, Colour: repeated(28, 2)},
	} {
		if !impl.IsPainting(x) {
			t.Error("IsPainting", x, "is false")
		}
	}
	for _, x := range wrongPaintings() {
		if impl.IsPainting(x) {
			t.Error("IsPainting", x, "is true")
		}
	}
}

// TestIsPaintingOfAnyLists tries all short lists with all small numbers of people and colours.
func TestIsPaintingOfAnyLists(t *testing.T) {
	pairs := map[int]int{0: 0, 1: 0, 2: 1, 3: 3}
	for size := range 5 {
		for _, list := range allLists(size, -1, 3) {
			for people := -2; people <= 3; people++ {
				for colours := -1; colours <= 5; colours++ {
					count, isNumber := pairs[people]
					want := isNumber && size == count && colours >= 1 && colours <= 3
					for _, colour := range list {
						want = want && colour >= 0 && colour < colours
					}
					x := impl.Painting{People: people, Colours: colours, Colour: list}
					if is := impl.IsPainting(x); is != want {
						t.Error("IsPainting", x, is)
					}
				}
			}
		}
	}
}

// TestColourOf tells the colours of pairs in both orders, where the pairs have different places in the list.
func TestColourOf(t *testing.T) {
	x := mustParsePainting(t, "5:3:0121021012")
	colours := [][]int{{-1, 0, 1, 2, 1}, {0, -1, 0, 2, 1}, {1, 0, -1, 0, 1}, {2, 2, 0, -1, 2}, {1, 1, 1, 2, -1}}
	for a := range 5 {
		for b := range 5 {
			colour, ok := impl.ColourOf(x, a, b)
			if ok != (a != b) || colour != max(colours[a][b], 0) {
				t.Error("ColourOf", a, b, colour, ok)
			}
		}
	}
}

// TestPaintedPeopleOutside tries people who are outside, or not different.
func TestPaintedPeopleOutside(t *testing.T) {
	for _, s := range []string{"0:1:", "0:3:", "1:2:", "2:3:2", "5:2:0011101100", "8:3:0000011112200212002100100002"} {
		x := mustParsePainting(t, s)
		for _, a := range extremes {
			for _, b := range extremes {
				want := a != b && a >= 0 && a < x.People && b >= 0 && b < x.People
				if colour, ok := impl.ColourOf(x, a, b); ok != want || !ok && colour != 0 {
					t.Error("ColourOf", s, a, b, colour, ok)
				}
				if y, ok := impl.PaintPair(x, a, b, 0); ok != want || !ok && !isZeroPainting(y) {
					t.Error("PaintPair", s, a, b, y, ok)
				}
			}
		}
	}
}

func TestPaintPair(t *testing.T) {
	for _, c := range []struct {
		painting string
		a        int
		b        int
		colour   int
		want     string
	}{
		{"2:1:0", 0, 1, 0, "2:1:0"},
		{"2:3:0", 0, 1, 2, "2:3:2"},
		{"2:3:2", 1, 0, 1, "2:3:1"},
		{"3:2:000", 0, 2, 1, "3:2:010"},
		{"3:2:010", 2, 0, 1, "3:2:010"},
		{"3:2:010", 2, 1, 1, "3:2:011"},
		{"5:2:0011101100", 1, 3, 1, "5:2:0011111100"},
		{"5:2:0011101100", 4, 0, 0, "5:2:0010101100"},
		{"5:2:0011101100", 4, 3, 1, "5:2:0011101101"},
		{"8:3:0000000000000000000000000000", 6, 7, 2, "8:3:0000000000000000000000000002"},
		{"8:3:0000000000000000000000000000", 7, 0, 2, "8:3:0000002000000000000000000000"},
	} {
		x, ok := impl.PaintPair(mustParsePainting(t, c.painting), c.a, c.b, c.colour)
		wantPainting(t, "PaintPair of "+c.painting, x, ok, c.want)
	}
}

// TestColoursOutside tries colours that the painting does not have, though others may.
func TestColoursOutside(t *testing.T) {
	for _, s := range []string{"0:1:", "0:2:", "1:3:", "2:1:0", "2:2:0", "3:2:010", "5:3:0121021012"} {
		x := mustParsePainting(t, s)
		for _, c := range extremes {
			isColour := c >= 0 && c < x.Colours
			if y, ok := impl.PaintPair(x, 0, 1, c); ok != (isColour && x.People > 1) || !ok && !isZeroPainting(y) {
				t.Error("PaintPair", s, c, y, ok)
			}
			if p, ok := impl.PartyOfColour(x, c); ok != isColour || !ok && !isZeroParty(p) || ok && p.People != x.People {
				t.Error("PartyOfColour", s, c, p, ok)
			}
			for _, d := range extremes {
				want := isColour && d >= 0 && d < x.Colours
				if y, ok := impl.ExchangeColours(x, c, d); ok != want || !ok && !isZeroPainting(y) {
					t.Error("ExchangeColours", s, c, d, y, ok)
				}
			}
		}
	}
}

func TestPaintingOf(t *testing.T) {
	for _, c := range []struct {
		party string
		want  string
	}{
		{"0:", "0:2:"},
		{"1:", "1:2:"},
		{"2:", "2:2:1"},
		{"2:0-1", "2:2:0"},
		{"3:0-2", "3:2:101"},
		{"4:0-1,1-2,2-3", "4:2:011010"},
		{"5:0-1,0-2,1-3,2-4,3-4", "5:2:0011101100"},
		{"8:", "8:2:1111111111111111111111111111"},
		{"8:0-7,6-7", "8:2:1111110111111111111111111110"},
	} {
		x, ok := impl.PaintingOf(mustParse(t, c.party))
		wantPainting(t, "PaintingOf "+c.party, x, ok, c.want)
		p, ok := impl.PartyOfColour(x, 0)
		wantParty(t, "PartyOfColour of "+c.want, p, ok, c.party)
	}
	for _, s := range []string{"9:", "9:0-1", "12:", "12:0-11"} {
		if x, ok := impl.PaintingOf(mustParse(t, s)); ok || !isZeroPainting(x) {
			t.Error("PaintingOf", s, x, ok)
		}
	}
	for _, p := range wrongParties() {
		if x, ok := impl.PaintingOf(p); ok || !isZeroPainting(x) {
			t.Error("PaintingOf", p, x, ok)
		}
	}
}

func TestPartyOfColour(t *testing.T) {
	for _, c := range []struct {
		painting string
		parties  []string
	}{
		{"0:3:", []string{"0:", "0:", "0:"}},
		{"1:1:", []string{"1:"}},
		{"2:2:1", []string{"2:", "2:0-1"}},
		{"4:1:000000", []string{"4:0-1,0-2,0-3,1-2,1-3,2-3"}},
		{"5:3:0121021012", []string{"5:0-1,1-2,2-3", "5:0-2,0-4,1-4,2-4", "5:0-3,1-3,3-4"}},
	} {
		x := mustParsePainting(t, c.painting)
		for colour, want := range c.parties {
			p, ok := impl.PartyOfColour(x, colour)
			wantParty(t, "PartyOfColour of "+c.painting, p, ok, want)
		}
	}
}

// paintingTold is what chapter 6 tells of the triples and groups of a painting.
type paintingTold struct {
	painting string
	threes   [][]int
	mixed    int
	most     int
	groups   [][]int // from size 2 on
}

func TestPaintingsTold(t *testing.T) {
	for _, x := range []paintingTold{
		{"0:1:", nil, 0, 0, nil},
		{"0:3:", nil, 0, 0, nil},
		{"1:2:", nil, 0, 0, nil},
		{"2:1:0", nil, 0, 2, [][]int{{0, 1}}},
		{"2:3:2", nil, 0, 2, [][]int{{0, 1}}},
		{"3:1:000", [][]int{{0, 1, 2}}, 0, 3, [][]int{{0, 1}, {0, 1, 2}}},
		{"3:3:222", [][]int{{0, 1, 2}}, 0, 3, [][]int{{0, 1}, {0, 1, 2}}},
		{"3:3:012", nil, 1, 2, [][]int{{0, 1}}},
		{"3:2:001", nil, 1, 2, [][]int{{0, 1}}},
		{"3:2:010", nil, 1, 2, [][]int{{0, 1}}},
		{"3:2:100", nil, 1, 2, [][]int{{0, 1}}},
		{"4:2:110101", [][]int{{0, 1, 2}}, 3, 3, [][]int{{0, 1}, {0, 1, 2}}},
		// Of the two triples the second one has the lesser colour.
		{"5:2:1100101100", [][]int{{0, 1, 2}, {0, 3, 4}}, 8, 3, [][]int{{0, 1}, {0, 1, 2}}},
		{"5:2:0011101100", nil, 10, 2, [][]int{{0, 1}}},
		// The first list of four people does not begin as the first one of three.
		{"6:3:111111222222222", [][]int{{0, 1, 2}, {1, 3, 4}, {1, 3, 5}, {1, 4, 5}, {2, 3, 4}, {2, 3, 5}, {2, 4, 5}, {3, 4, 5}}, 12, 4, [][]int{{0, 1}, {0, 1, 2}, {1, 3, 4, 5}}},
		{"7:3:000001112202120210100", nil, 35, 2, [][]int{{0, 1}}},
	} {
		p := mustParsePainting(t, x.painting)
		if threes, ok := impl.OneColourThrees(p); !ok || !sameLists(threes, x.threes) {
			t.Error("OneColourThrees", x.painting, threes, ok)
		}
		if count, ok := impl.CountOneColour(p); !ok || count != len(x.threes) {
			t.Error("CountOneColour", x.painting, count, ok)
		}
		if mixed, ok := impl.CountMixed(p); !ok || mixed != x.mixed {
			t.Error("CountMixed", x.painting, mixed, ok)
		}
		if most, ok := impl.MostOneColour(p); ok != (p.People > 1) || most != x.most {
			t.Error("MostOneColour", x.painting, most, ok)
		}
		for size := 2; size <= impl.MaxPainted; size++ {
			var want []int
			if size-2 < len(x.groups) {
				want = x.groups[size-2]
			}
			if group, ok := impl.OneColourGroup(p, size); ok != (want != nil) || !slices.Equal(group, want) {
				t.Error("OneColourGroup", x.painting, size, group, ok, "not", want)
			}
		}
	}
}

func TestEightOfOneColour(t *testing.T) {
	for colours := 1; colours <= impl.MaxColours; colours++ {
		x := impl.Painting{People: 8, Colours: colours, Colour: repeated(28, colours-1)}
		if count, ok := impl.CountOneColour(x); !ok || count != 56 {
			t.Error("CountOneColour", colours, count, ok)
		}
		if threes, ok := impl.OneColourThrees(x); !ok || len(threes) != 56 || !slices.Equal(threes[55], []int{5, 6, 7}) {
			t.Error("OneColourThrees", colours, threes, ok)
		}
		if mixed, ok := impl.CountMixed(x); !ok || mixed != 0 {
			t.Error("CountMixed", colours, mixed, ok)
		}
		if most, ok := impl.MostOneColour(x); !ok || most != 8 {
			t.Error("MostOneColour", colours, most, ok)
		}
		for size := 2; size <= 8; size++ {
			if group, ok := impl.OneColourGroup(x, size); !ok || !slices.Equal(group, counted(size)) {
				t.Error("OneColourGroup", colours, size, group, ok)
			}
		}
	}
}

func TestOneColourGroupFailsForWrongSizes(t *testing.T) {
	for _, s := range []string{"0:1:", "1:1:", "2:2:1", "3:1:000", "8:1:0000000000000000000000000000"} {
		x := mustParsePainting(t, s)
		for _, size := range append(extremes, 4, 5, 9) {
			group, ok := impl.OneColourGroup(x, size)
			if ok != (size >= 2 && size <= x.People) || !ok && group != nil {
				t.Error("OneColourGroup", s, size, group, ok)
			}
		}
	}
}

// TestLeastThrees holds the least numbers against the formulas of the document, up to the limit.
func TestLeastThrees(t *testing.T) {
	for n, want := range []int{0, 0, 0, 0, 0, 0, 2, 4, 8, 12, 20, 28, 40} {
		if least, ok := impl.LeastThrees(n); !ok || least != want {
			t.Error("LeastThrees", n, least, ok, "not", want)
		}
	}
	for n := 0; n <= 100; n++ {
		var want int
		switch u := n / 4; n % 4 {
		case 1:
			want = 2 * u * (u - 1) * (4*u + 1) / 3
		case 3:
			want = 2 * u * (u + 1) * (4*u - 1) / 3
		default:
			u = n / 2
			want = u * (u - 1) * (u - 2) / 3
		}
		if least, ok := impl.LeastThrees(n); !ok || least != want {
			t.Error("LeastThrees", n, least, ok, "not", want)
		}
		if least, ok := impl.LeastOneKind(n); ok && least != want {
			t.Error("LeastOneKind", n, least, "not", want)
		}
	}
	for _, n := range append(extremes, -100, 99, 100, 101, 102) {
		least, ok := impl.LeastThrees(n)
		if ok != (n >= 0 && n <= 100) || !ok && least != 0 {
			t.Error("LeastThrees", n, least, ok)
		}
	}
}

func TestFirstAvoiding(t *testing.T) {
	for colours, texts := range [][]string{
		1: {"0:1:", "1:1:", "2:1:0"},
		2: {"0:2:", "1:2:", "2:2:0", "3:2:001", "4:2:001100", "5:2:0011101100"},
		3: {"0:3:", "1:3:", "2:3:0", "3:3:001", "4:3:000112", "5:3:0000112211", "6:3:000001122212211", "7:3:000001112202120210100", "8:3:0000011112200212002100100002"},
	} {
		if colours == 0 {
			continue
		}
		for n := 0; n <= impl.MaxPainted; n++ {
			x, ok := impl.FirstAvoiding(n, colours)
			if n < len(texts) {
				wantPainting(t, "FirstAvoiding", x, ok, texts[n])
			} else if ok || !isZeroPainting(x) {
				t.Error("FirstAvoiding", n, colours, x, ok)
			}
		}
	}
}

func TestCountAvoiding(t *testing.T) {
	for colours, counts := range [][]int{1: {1, 1, 1, 0, 0, 0}, 2: {1, 1, 2, 6, 18, 12}, 3: {1, 1, 3, 24, 450, 17136}} {
		for n, want := range counts {
			if count, ok := impl.CountAvoiding(n, colours); !ok || count != want {
				t.Error("CountAvoiding", n, colours, count, ok, "not", want)
			}
		}
	}
}

func TestAvoidingFailsForWrongNumbers(t *testing.T) {
	for _, n := range append(extremes, 4, 5, 9) {
		for _, colours := range append(extremes, 4) {
			isColours := colours >= 1 && colours <= impl.MaxColours
			isPainted := n >= 0 && n <= impl.MaxPainted
			x, ok := impl.FirstAvoiding(n, colours)
			if ok && !(isColours && isPainted) || !ok && !isZeroPainting(x) || ok && (x.People != n || x.Colours != colours) {
				t.Error("FirstAvoiding", n, colours, x, ok)
			}
			count, ok := impl.CountAvoiding(n, colours)
			if ok != (isColours && n >= 0 && n <= 5) || !ok && count != 0 {
				t.Error("CountAvoiding", n, colours, count, ok)
			}
		}
	}
}

func TestExchangeColours(t *testing.T) {
	for _, c := range []struct {
		painting string
		c        int
		d        int
		want     string
	}{
		{"0:1:", 0, 0, "0:1:"},
		{"0:2:", 0, 1, "0:2:"},
		{"1:3:", 2, 0, "1:3:"},
		{"2:1:0", 0, 0, "2:1:0"},
		{"2:2:0", 0, 1, "2:2:1"},
		{"2:2:0", 1, 1, "2:2:0"},
		{"3:3:012", 0, 1, "3:3:102"},
		{"3:3:012", 1, 0, "3:3:102"},
		{"3:3:012", 2, 0, "3:3:210"},
		{"3:3:012", 1, 2, "3:3:021"},
		{"3:3:012", 2, 2, "3:3:012"},
		{"5:2:0011101100", 0, 1, "5:2:1100010011"},
		{"5:3:0011101100", 1, 2, "5:3:0022202200"},
		{"5:3:0011101100", 0, 0, "5:3:0011101100"},
	} {
		x, ok := impl.ExchangeColours(mustParsePainting(t, c.painting), c.c, c.d)
		wantPainting(t, "ExchangeColours of "+c.painting, x, ok, c.want)
	}
}

func TestRenamePainting(t *testing.T) {
	for _, c := range []struct {
		painting string
		names    []int
		want     string
	}{
		{"0:1:", nil, "0:1:"},
		{"0:3:", []int{}, "0:3:"},
		{"1:2:", []int{0}, "1:2:"},
		{"2:3:2", []int{1, 0}, "2:3:2"},
		// The pairs 0-1, 0-2 and 1-2 become 1-2, 0-1 and 0-2.
		{"3:3:012", []int{1, 2, 0}, "3:3:120"},
		{"3:3:012", []int{2, 0, 1}, "3:3:201"},
		{"4:2:100000", []int{2, 3, 0, 1}, "4:2:000001"},
		{"8:2:1000000000000000000000000000", []int{7, 6, 5, 4, 3, 2, 1, 0}, "8:2:0000000000000000000000000001"},
	} {
		x, ok := impl.RenamePainting(mustParsePainting(t, c.painting), c.names)
		wantPainting(t, "RenamePainting of "+c.painting, x, ok, c.want)
	}
}

func TestRenamePaintingFailsForWrongNames(t *testing.T) {
	x := mustParsePainting(t, "3:3:012")
	for _, names := range [][]int{
		nil, {}, {0}, {0, 1}, {0, 1, 1}, {0, 0, 2}, {2, 1, 2}, {0, 1, 2, 2}, {0, 1, 2, 3}, {0, 1, 3}, {1, 2, 3}, {-1, 0, 1}, {0, 1, -1},
		{math.MinInt, 0, 1}, {0, 1, math.MaxInt}, {math.MinInt, math.MaxInt, 0}, make([]int, 1000),
	} {
		if y, ok := impl.RenamePainting(x, names); ok || !isZeroPainting(y) {
			t.Error("RenamePainting", names, y, ok)
		}
	}
	if y, ok := impl.RenamePainting(impl.Painting{Colours: 2}, []int{0}); ok || !isZeroPainting(y) {
		t.Error("RenamePainting of nobody", y, ok)
	}
	if y, ok := impl.RenamePainting(impl.Painting{People: 1, Colours: 2}, []int{1}); ok || !isZeroPainting(y) {
		t.Error("RenamePainting of one", y, ok)
	}
}

func TestPaintingText(t *testing.T) {
	for _, c := range []struct {
		painting impl.Painting
		want     string
	}{
		{impl.Painting{Colours: 1}, "0:1:"},
		{impl.Painting{People: 1, Colours: 3}, "1:3:"},
		{impl.Painting{People: 2, Colours: 3, Colour: []int{2}}, "2:3:2"},
		{impl.Painting{People: 4, Colours: 2, Colour: []int{0, 1, 0, 0, 1, 1}}, "4:2:010011"},
		{impl.Painting{People: 8, Colours: 3, Colour: repeated(28, 1)}, "8:3:1111111111111111111111111111"},
	} {
		text, ok := impl.PaintingText(c.painting)
		if !ok || text != c.want {
			t.Errorf("PaintingText %v: %q %v", c.painting, text, ok)
		}
		if x, ok := impl.ParsePainting(c.want); !ok || !samePainting(x, c.painting) {
			t.Errorf("ParsePainting(%q): %v %v", c.want, x, ok)
		}
	}
}

func TestParsePainting(t *testing.T) {
	for _, s := range []string{
		"", ":", "::", ":::", "0", "0:", "0:1", "0:1:0", "0::", ":1:", "0:0:", "0:4:", "00:1:", "0:01:", "+0:1:", "0:+1:", "-0:1:", "-1:1:", "0:-1:", " 0:1:", "0:1: ", "0:1:\n", "0:1::", "0;1:", "0:1;",
		"1:2", "1:2:0", "2:1:", "2:1:1", "2:2:2", "2:3:3", "2:3:4", "2:3:00", "2:3:-1", "2:3: 1", "2:3:1:", "2:3:1,", "2:x:1", "x:3:1", "2:3:x", "2:3:/", "2:3::", "2:3:\x00", "2:3:\xff", "2:3:\xb0", "2:3:\u0661", "2.0:3:1", "0x2:3:1",
		"3:2:0,1,0", "3:2:01", "3:2:0100", "3:2:012", "3::010", "3:010", "3:2010", "32:010", "8:2:000000000000000000000000000", "9:2:000000000000000000000000000000000000", "10:2:000000000000000000000000000000000000000000000",
		"18446744073709551618:3:1", "2:18446744073709551619:1", "9223372036854775808:1:", "-9223372036854775809:1:", strings.Repeat("9", 500), "2:2:" + strings.Repeat("1", 500), strings.Repeat(":", 500), strings.Repeat("2:", 500),
	} {
		if x, ok := impl.ParsePainting(s); ok || !isZeroPainting(x) {
			t.Errorf("ParsePainting(%q): %v %v", s, x, ok)
		}
	}
}

// TestParsePaintingOfChangedTexts changes one byte of right texts: what is parsed still is another text of a painting, and no other.
func TestParsePaintingOfChangedTexts(t *testing.T) {
	for _, s := range changedTexts("0:1:", "2:3:1", "4:2:010011", "5:3:0121021012") {
		x, ok := impl.ParsePainting(s)
		if text, fine := impl.PaintingText(x); ok && (!fine || text != s) || !ok && !isZeroPainting(x) {
			t.Errorf("ParsePainting(%q): %v %v", s, x, ok)
		}
	}
}

func TestPaintFailsForWrongPaintings(t *testing.T) {
	for _, x := range wrongPaintings() {
		names := counted(max(min(x.People, 13), 0))
		colour, ok1 := impl.ColourOf(x, 0, 1)
		painted, ok2 := impl.PaintPair(x, 0, 1, 0)
		p, ok3 := impl.PartyOfColour(x, 0)
		threes, ok4 := impl.OneColourThrees(x)
		count, ok5 := impl.CountOneColour(x)
		mixed, ok6 := impl.CountMixed(x)
		exchanged, ok7 := impl.ExchangeColours(x, 0, 0)
		renamed, ok8 := impl.RenamePainting(x, names)
		group, ok9 := impl.OneColourGroup(x, 2)
		most, ok10 := impl.MostOneColour(x)
		text, ok11 := impl.PaintingText(x)
		for i, ok := range []bool{ok1, ok2, ok3, ok4, ok5, ok6, ok7, ok8, ok9, ok10, ok11} {
			if ok {
				t.Error("function", i+1, "accepts", x)
			}
		}
		if colour != 0 || count != 0 || mixed != 0 || most != 0 || text != "" || threes != nil || group != nil {
			t.Error(x, "fails with", colour, count, mixed, most, text, threes, group)
		}
		if !isZeroPainting(painted) || !isZeroParty(p) || !isZeroPainting(exchanged) || !isZeroPainting(renamed) {
			t.Error(x, "fails with", painted, p, exchanged, renamed)
		}
	}
}
