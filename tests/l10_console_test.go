package tests

import (
	"slices"
	"strings"
	"testing"

	"loop.example/g01257/impl"
)

const firstParty = "5:0-1,0-4,1-2,2-3,3-4"
const firstKept = "2:0-1"

func mustDesk(t *testing.T, party string, kept string) impl.Desk {
	t.Helper()
	return impl.Desk{Party: mustParse(t, party), Kept: mustParse(t, kept)}
}

func sameDesk(d impl.Desk, e impl.Desk) bool {
	return sameParty(d.Party, e.Party) && sameParty(d.Kept, e.Kept)
}

func isZeroDesk(d impl.Desk) bool {
	return isZeroParty(d.Party) && isZeroParty(d.Kept)
}

// scriptOf returns the script of some lines.
func scriptOf(lines ...string) string {
	if len(lines) == 0 {
		return ""
	}
	return strings.Join(lines, "\n") + "\n"
}

// lineNumbers returns the numbers of so many lines.
func lineNumbers(lines int) []int {
	return counted(lines + 1)[1:]
}

// wantScript holds what is told of a script against what it gives.
func wantScript(t *testing.T, script string, replies []string, failed []int, after impl.Desk) {
	t.Helper()
	if got, ok := impl.RunScript(script); !ok || !slices.Equal(got, replies) {
		t.Errorf("RunScript(%q): %q %v, not %q", script, got, ok, replies)
	}
	if got, ok := impl.FailedLines(script); !ok || !slices.Equal(got, failed) {
		t.Errorf("FailedLines(%q): %v %v, not %v", script, got, ok, failed)
	}
	if got, ok := impl.DeskAfter(script); !ok || !sameDesk(got, after) {
		t.Errorf("DeskAfter(%q): %v %v, not %v", script, got, ok, after)
	}
}

// wantNoScript checks that a text is no script.
func wantNoScript(t *testing.T, text string) {
	t.Helper()
	if got, ok := impl.RunScript(text); ok || len(got) > 0 {
		t.Errorf("RunScript(%q): %q %v, not failed", text, got, ok)
	}
	if got, ok := impl.FailedLines(text); ok || len(got) > 0 {
		t.Errorf("FailedLines(%q): %v %v, not failed", text, got, ok)
	}
	if got, ok := impl.DeskAfter(text); ok || !isZeroDesk(got) {
		t.Errorf("DeskAfter(%q): %v %v, not failed", text, got, ok)
	}
}

// wantLine holds the reply to a line and the desk behind it against what is told.
func wantLine(t *testing.T, d impl.Desk, line string, reply string, after impl.Desk) {
	t.Helper()
	got, text, ok := impl.DeskLine(d, line)
	if !ok || text != reply || !sameDesk(got, after) {
		t.Errorf("DeskLine(%v, %q): %v %q %v, not %v %q", d, line, got, text, ok, after, reply)
	}
}

func TestConsoleExample(t *testing.T) {
	script := scriptOf("threes", "group", "strong", "round", "walks 0 0 2", "keep", "other", "same", "drop 0 1", "free 5 3 3", "mill 1", "parts", "full 13", "fly")
	replies := []string{"0,0,10", "0,1", "5,2,0,1", "5", "2", firstParty, "5:0-2,0-3,1-3,1-4,2-4", "yes", "no", "5:0-1,0-2,1-3,2-4,3-4", "3:0-1,0-2,1-2", "0,1,2", "no", "what"}
	wantScript(t, script, replies, []int{9, 13, 14}, mustDesk(t, "3:0-1,0-2,1-2", firstParty))
}

func TestFirstDesk(t *testing.T) {
	want := mustDesk(t, firstParty, firstKept)
	first := impl.FirstDesk()
	if !sameDesk(first, want) || !impl.IsDesk(first) {
		t.Error("FirstDesk", first)
	}
	// Nobody who changes it changes that of others.
	first.Party.Pairs[0] = impl.Pair{A: 3, B: 3}
	first.Kept.Pairs[0] = impl.Pair{A: 4, B: 4}
	if again := impl.FirstDesk(); !sameDesk(again, want) {
		t.Error("FirstDesk, once it was changed", again)
	}
	wantScript(t, "show\nswap\n", []string{firstParty, firstKept}, nil, mustDesk(t, firstKept, firstParty))
}

func TestIsDesk(t *testing.T) {
	for _, p := range someParties() {
		for _, q := range someParties() {
			if d := (impl.Desk{Party: p, Kept: q}); !impl.IsDesk(d) {
				t.Error("IsDesk", d)
			}
		}
		for _, q := range wrongParties() {
			for _, d := range []impl.Desk{{Party: p, Kept: q}, {Party: q, Kept: p}, {Party: q, Kept: q}} {
				if impl.IsDesk(d) {
					t.Error("IsDesk", d)
				}
			}
		}
	}
	if !impl.IsDesk(impl.Desk{}) {
		t.Error("nobody in the Party and nobody in Kept are no desk")
	}
}

func TestLinesWithAnEffect(t *testing.T) {
	const line = "4:0-1,1-2,2-3"
	const full12 = "12:0-1,0-2,0-3,0-4,0-5,0-6,0-7,0-8,0-9,0-10,0-11,1-2,1-3,1-4,1-5,1-6,1-7,1-8,1-9,1-10,1-11,2-3,2-4,2-5,2-6,2-7,2-8,2-9,2-10,2-11,3-4,3-5,3-6,3-7,3-8,3-9,3-10,3-11,4-5,4-6,4-7,4-8,4-9,4-10,4-11,5-6,5-7,5-8,5-9,5-10,5-11,6-7,6-8,6-9,6-10,6-11,7-8,7-9,7-10,7-11,8-9,8-10,8-11,9-10,9-11,10-11"
	for _, x := range []struct{ party, kept, line, after, left string }{
		{firstParty, firstKept, "party " + line, line, firstKept},
		{firstParty, firstKept, "party 0:", "0:", firstKept},
		{firstParty, firstKept, "party 12:", "12:", firstKept},
		{firstParty, firstKept, "party 12:0-11,10-11", "12:0-11,10-11", firstKept},
		{firstParty, firstKept, "party " + full12, full12, firstKept},
		{firstParty, firstKept, "full 0", "0:", firstKept},
		{firstParty, firstKept, "full 1", "1:", firstKept},
		{firstParty, firstKept, "full 4", "4:0-1,0-2,0-3,1-2,1-3,2-3", firstKept},
		{firstParty, firstKept, "full 12", full12, firstKept},
		{firstParty, firstKept, "mill 0", "1:", firstKept},
		{firstParty, firstKept, "mill 2", "5:0-1,0-2,0-3,0-4,1-2,3-4", firstKept},
		{firstParty, firstKept, "mill 5", "11:0-1,0-2,0-3,0-4,0-5,0-6,0-7,0-8,0-9,0-10,1-2,3-4,5-6,7-8,9-10", firstKept},
		{firstParty, firstKept, "couples 1", "2:", firstKept},
		{firstParty, firstKept, "couples 2", "4:0-2,1-2", firstKept},
		{firstParty, firstKept, "couples 3", "6:0-2,0-4,1-2,1-4,2-4,2-5", firstKept},
		{firstParty, firstKept, "circle 5 1", firstParty, firstKept},
		{firstParty, firstKept, "circle 2 1", "2:0-1", firstKept},
		{firstParty, firstKept, "circle 6 1,3", "6:0-1,0-3,0-5,1-2,1-4,2-3,2-5,3-4,4-5", firstKept},
		{firstParty, firstKept, "circle 12 1,2,3,4,5,6", full12, firstKept},
		{firstParty, firstKept, "add 0 2", "5:0-1,0-2,0-4,1-2,2-3,3-4", firstKept},
		{firstParty, firstKept, "add 4 2", "5:0-1,0-4,1-2,2-3,2-4,3-4", firstKept},
		{"12:", firstKept, "add 11 10", "12:10-11", firstKept},
		{firstParty, firstKept, "drop 0 4", "5:0-1,1-2,2-3,3-4", firstKept},
		{firstParty, firstKept, "drop 2 1", "5:0-1,0-4,2-3,3-4", firstKept},
		{"2:0-1", firstKept, "drop 0 1", "2:", firstKept},
		{firstParty, firstKept, "other", "5:0-2,0-3,1-3,1-4,2-4", firstKept},
		{"0:", firstKept, "other", "0:", firstKept},
		{"12:", firstKept, "other", full12, firstKept},
		{line, firstKept, "least", "4:0-1,0-2,1-3", firstKept},
		{"7:5-6", firstKept, "least", "7:0-1", firstKept},
		{"0:", firstKept, "least", "0:", firstKept},
		{line, firstKept, "lines", "3:0-1,1-2", firstKept},
		{"12:", firstKept, "lines", "0:", firstKept},
		{firstParty, firstKept, "keep", firstParty, firstParty},
		{"0:", firstKept, "keep", "0:", "0:"},
		{firstParty, firstKept, "swap", firstKept, firstParty},
		{firstParty, "0:", "swap", "0:", firstParty},
		{"0:", firstKept, "swap", firstKept, "0:"},
		{"2:0-1", "3:1-2", "beside", "5:0-1,3-4", "3:1-2"},
		{"3:1-2", "2:0-1", "beside", "5:1-2,3-4", "2:0-1"},
		{"2:0-1", "0:", "beside", "2:0-1", "0:"},
		{"6:", "6:", "beside", "12:", "6:"},
		{"2:0-1", "2:", "together", "4:0-1,0-2,0-3,1-2,1-3", "2:"},
		{"2:", "2:0-1", "together", "4:0-2,0-3,1-2,1-3,2-3", "2:0-1"},
		{"0:", "2:0-1", "together", "2:0-1", "2:0-1"},
		{firstKept, firstKept, "free 5 3 3", "5:0-1,0-2,1-3,2-4,3-4", firstKept},
		{firstParty, firstKept, "free 0 1 1", "0:", firstKept},
		{firstParty, firstKept, "free 3 2 4", "3:", firstKept},
		{firstParty, firstKept, "free 3 4 2", "3:0-1,0-2,1-2", firstKept},
	} {
		wantLine(t, mustDesk(t, x.party, x.kept), x.line, x.after, mustDesk(t, x.after, x.left))
	}
}

func TestLinesThatAsk(t *testing.T) {
	const kite = "5:0-1,0-2,1-2,2-3"
	for _, x := range []struct{ party, kept, line, reply string }{
		{firstParty, firstKept, "show", firstParty},
		{"0:", firstKept, "show", "0:"},
		{kite, firstKept, "numbers", "2,2,3,1,0"},
		{"1:", firstKept, "numbers", "0"},
		{"0:", firstKept, "numbers", "-"},
		{"5:0-3,1-2", firstKept, "parts", "0,3/1,2/4"},
		{kite, firstKept, "parts", "0,1,2,3/4"},
		{"1:", firstKept, "parts", "0"},
		{"12:0-11", firstKept, "parts", "0,11/1/2/3/4/5/6/7/8/9/10"},
		{"0:", firstKept, "parts", "-"},
		{kite, firstKept, "threes", "1,2,7"},
		{"3:0-1,0-2,1-2", firstKept, "threes", "1,0,0"},
		{"12:", firstKept, "threes", "0,220,0"},
		{"0:", firstKept, "threes", "0,0,0"},
		{kite, firstKept, "group", "0,1,2"},
		{"3:", firstKept, "group", "0"},
		{"0:", firstKept, "group", "-"},
		{kite, firstKept, "strange", "0,3,4"},
		{"2:0-1", firstKept, "strange", "0"},
		{"0:", firstKept, "strange", "-"},
		{"4:0-1,1-2,2-3", "4:0-2,0-3,1-3", "same", "yes"},
		{"4:0-1,1-2,2-3", "4:0-1,0-2,0-3", "same", "not"},
		{"7:0-1", "7:5-6", "same", "yes"},
		{"2:", "3:", "same", "not"},
		{"0:", "0:", "same", "yes"},
		{firstParty, firstKept, "strong", "5,2,0,1"},
		{"10:0-7,0-8,0-9,1-5,1-6,1-9,2-4,2-6,2-8,3-4,3-5,3-7,4-9,5-8,6-7", firstKept, "strong", "10,3,0,1"},
		{kite, firstKept, "round", "3"},
		{"12:0-1,0-11,1-2,2-3,3-4,4-5,5-6,6-7,7-8,8-9,9-10,10-11", firstKept, "round", "12"},
		{firstParty, firstKept, "width", "2"},
		{"3:0-1,0-2,1-2", firstKept, "width", "1"},
		{"1:", firstKept, "width", "0"},
		{kite, firstKept, "walks 0 1 0", "0"},
		{kite, firstKept, "walks 0 0 0", "1"},
		{kite, firstKept, "walks 0 3 2", "1"},
		{kite, firstKept, "walks 3 0 3", "1"},
		{"2:0-1", firstKept, "walks 0 0 10", "1"},
		{"3:0-1,0-2,1-2", firstKept, "walks 2 2 10", "342"},
		{"3:0-1,0-2,1-2", firstKept, "walks 1 2 10", "341"},
	} {
		d := mustDesk(t, x.party, x.kept)
		wantLine(t, d, x.line, x.reply, d)
	}
}

func TestLinesThatFail(t *testing.T) {
	for _, x := range []struct {
		party, kept string
		lines       []string
	}{
		{firstParty, firstKept, []string{
			"full 13", "full 999999", "mill 6", "mill 999999", "couples 0", "couples 7", "couples 999999",
			"circle 0 1", "circle 13 1", "circle 1 1", "circle 5 0", "circle 5 3", "circle 5 1,1", "circle 5 2,1", "circle 5 0,1", "circle 999999 999999",
			"circle 12 1,2,3,4,5,6,7", "add 0 1", "add 1 0", "add 0 0", "add 0 5", "add 5 0", "add 999999 0", "add 0 999999",
			"drop 0 2", "drop 2 0", "drop 1 1", "drop 0 5", "drop 5 0", "drop 999999 999999",
			"free 6 3 3", "free 9 4 4", "free 12 1 1", "free 13 4 4", "free 5 0 3", "free 5 3 0", "free 5 5 3", "free 5 3 5", "free 1 1 2", "free 999999 999999 999999",
			"walks 0 5 1", "walks 5 0 1", "walks 0 0 11", "walks 0 0 999999", "walks 999999 0 0", "walks 0 999999 0",
		}},
		{"8:", "5:", []string{"least", "same", "beside", "together", "strong", "round", "width"}},
		{"5:", "8:", []string{"same", "beside", "together", "strong", "round", "width"}},
		{"12:", "1:", []string{"beside", "together"}},
		{"1:", "12:", []string{"beside", "together"}},
		{"6:0-1,0-2,0-3,0-4,0-5,1-2,1-3,1-4,1-5,2-3,2-4,2-5,3-4", firstKept, []string{"lines"}},
		{"4:0-1,0-2,0-3,1-2,1-3,2-3", firstKept, []string{"strong"}},
		{"4:0-1,0-2,0-3", firstKept, []string{"strong", "round"}},
		{"0:", firstKept, []string{"strong", "round", "width", "walks 0 0 0", "add 0 0", "drop 0 0", "add 0 1"}},
		{"2:", firstKept, []string{"drop 0 1", "width", "round"}},
	} {
		d := mustDesk(t, x.party, x.kept)
		for _, line := range x.lines {
			wantLine(t, d, line, "no", d)
		}
	}
}

func TestLinesThatAreNone(t *testing.T) {
	d := mustDesk(t, firstParty, firstKept)
	for _, line := range []string{
		"", " ", "  ", "   ", "    ", "fly", "no", "what", "yes", "not", "-", "0", "5:", "\x00", "\xff", "\t", "\r",
		"Show", "SHOW", "shows", "sho", "show ", " show", " show ", "show\r", "show\x00", "show\t", "show show", "show 0",
		"numbers 0", "parts ", "threes 3", "group 1", "strange ", "same 0", "strong 5", "round 5", "width 2", "other other", "least 1", "lines ", "keep 2:", "swap 0", "beside 1", "together 2:0-1",
		"walks", "walks ", "walks 0", "walks 0 0", "walks 0 0 ", "walks 0  0", "walks 0 0  2", "walks 0 0 2 ", "walks 0 0 2 2", "walks 0 0 -1", "walks 0 0 2.0", "walks 0 x 2", "walks  0 0 2",
		"free", "free 5", "free 5 3", "free 5 3 3 3", "free 5 3 ", "free 5,3,3", "free 5 3 +3", "free 05 3 3", " free 5 3 3",
		"party", "party ", "party  ", "party 5", "party :", "party 13:", "party 3:0-1,", "party 3:,0-1", "party 3:1-0", "party 3:0-3", "party 3:0-0", "party 3:0-1,0-1", "party 3:1-2,0-1", "party 03:", "party +3:", "party -1:", "party 3:0-1 ", "party 3: 0-1", "party 3:0-01", "party  3:", "party 3: 3:", "party x", "party 2:0-1\r",
		"full", "full ", "full  ", "full  3", "full 3 ", " full 3", "full 3 3", "full\t3", "full3", "full x", "full 3,4", "full 0x3", "full 1_0", "full 3.", "full 1e1", "full ٣", "full 3:",
		"mill", "mill ", "mill 1 1", "couples", "couples ", "couples 1 1", "couples two",
		"circle", "circle 5", "circle 5 ", "circle  1", "circle 5 1 2", "circle 5 1 ", "circle 5  1", "circle 5 ,", "circle 5 1,", "circle 5 ,1", "circle 5 1,,2", "circle 5 1, 2", "circle 5 1,2,", "circle 5 -", "circle 5 1/2", "circle 13 x", "circle x 1", "circle 1",
		"add", "add 0", "add 0 ", "add  2", "add 0 2 3", "add 0 2 ", "add 0,2", "add 0-2", "add a b", "add 0 0 0", "add 1 1 ",
		"drop", "drop 0", "drop 0 ", "drop 0 1 2", "drop  0 1", "drop 0-1",
		strings.Repeat(" ", impl.MaxScript), strings.Repeat("x", impl.MaxScript), "full " + strings.Repeat("9", impl.MaxScript-5),
	} {
		wantLine(t, d, line, "what", d)
	}
}

// TestNumbersOfLines puts words in each place where a line has a number.
func TestNumbersOfLines(t *testing.T) {
	d := mustDesk(t, firstParty, firstKept)
	wrong := []string{"", "-0", "-1", "+0", "+1", "00", "01", "007", "1000000", "1000001", "9999999", "0999999", "9223372036854775807", "9223372036854775808", "18446744073709551616", "-9223372036854775808", "1.", "1.0", ".1", "1e0", "0x1", "1_0", "0b1", "x", "N", "1x", "x1", "1\t", "\t1", "1\x00", "\xff", "١", "-", ":"}
	for _, x := range []struct{ before, behind, ofZero string }{
		{"full ", "", "0:"},
		{"mill ", "", "1:"},
		{"couples ", "", "no"},
		{"circle ", " 1", "no"},
		{"circle 5 ", "", "no"},
		{"circle 5 1,", "", "no"},
		{"circle 5 ", ",2", "no"},
		{"circle 5 1,", ",2", "no"},
		{"add ", " 2", "5:0-1,0-2,0-4,1-2,2-3,3-4"},
		{"add 3 ", "", "5:0-1,0-3,0-4,1-2,2-3,3-4"},
		{"drop ", " 1", "5:0-4,1-2,2-3,3-4"},
		{"drop 4 ", "", "5:0-1,1-2,2-3,3-4"},
		{"free ", " 3 3", "0:"},
		{"free 5 ", " 3", "no"},
		{"free 5 3 ", "", "no"},
		{"walks ", " 1 1", "1"},
		{"walks 2 ", " 2", "1"},
		{"walks 0 0 ", "", "1"},
	} {
		after := d
		if strings.Contains(x.ofZero, ":") {
			after.Party = mustParse(t, x.ofZero)
		}
		wantLine(t, d, x.before+"0"+x.behind, x.ofZero, after)
		wantLine(t, d, x.before+"999999"+x.behind, "no", d)
		for _, word := range wrong {
			wantLine(t, d, x.before+word+x.behind, "what", d)
		}
	}
}

func TestLongLines(t *testing.T) {
	d := mustDesk(t, firstParty, firstKept)
	// A list as long as a line can be is one, but has too many steps.
	long := "circle 5 " + strings.Repeat("1,", (impl.MaxScript-10)/2) + "1"
	if len(long) != impl.MaxScript {
		t.Fatal("a long line has", len(long), "bytes")
	}
	wantLine(t, d, long, "no", d)
	wantLine(t, d, long[:len(long)-1], "what", d)
	for _, line := range []string{
		long + "1", long + " ", strings.Repeat(" ", impl.MaxScript+1), strings.Repeat("x", impl.MaxScript+1), strings.Repeat("show ", impl.MaxScript),
		"\n", "show\n", "\nshow", "show\nshow", "show\n\n", "\n\n", "show\r\n", "full 3\n", strings.Repeat("x", impl.MaxScript-1) + "\n",
	} {
		if after, reply, ok := impl.DeskLine(d, line); ok || reply != "" || !isZeroDesk(after) {
			t.Errorf("DeskLine of %q: %v %q %v, not failed", line, after, reply, ok)
		}
	}
}

func TestLinesOfNoDesk(t *testing.T) {
	right := mustParse(t, firstParty)
	for _, p := range wrongParties() {
		for _, d := range []impl.Desk{{Party: p, Kept: right}, {Party: right, Kept: p}, {Party: p, Kept: p}} {
			for _, line := range []string{"show", "full 3", "party 2:0-1", "keep", "swap", "same", "full 13", "fly", ""} {
				if after, reply, ok := impl.DeskLine(d, line); ok || reply != "" || !isZeroDesk(after) {
					t.Errorf("DeskLine of %v and %q: %v %q %v, not failed", d, line, after, reply, ok)
				}
			}
		}
	}
}

func TestFewLines(t *testing.T) {
	first := mustDesk(t, firstParty, firstKept)
	wantScript(t, "", nil, nil, first)
	wantScript(t, "\n", []string{"what"}, []int{1}, first)
	wantScript(t, "\n\n\n", []string{"what", "what", "what"}, []int{1, 2, 3}, first)
	wantScript(t, " \n", []string{"what"}, []int{1}, first)
	wantScript(t, "show\n", []string{firstParty}, nil, first)
	wantScript(t, "show\n\nshow\n", []string{firstParty, "what", firstParty}, []int{2}, first)
	wantScript(t, "show\r\nshow\r\n", []string{"what", "what"}, []int{1, 2}, first)
	wantScript(t, "full 13\nfull 3\nfull\n", []string{"no", "3:0-1,0-2,1-2", "what"}, []int{1, 3}, mustDesk(t, "3:0-1,0-2,1-2", firstKept))
	// What fails or is none changes nothing for the lines behind it.
	wantScript(t, scriptOf("drop 0 4", "drop 0 4", "circle 9 9", "least x", "keep", "show"),
		[]string{"5:0-1,1-2,2-3,3-4", "no", "no", "what", "5:0-1,1-2,2-3,3-4", "5:0-1,1-2,2-3,3-4"}, []int{2, 3, 4}, mustDesk(t, "5:0-1,1-2,2-3,3-4", "5:0-1,1-2,2-3,3-4"))
}

func TestNobodyOnTheDesk(t *testing.T) {
	wantScript(t,
		scriptOf("party 0:", "show", "numbers", "parts", "threes", "group", "strange", "same", "strong", "round", "width", "walks 0 0 0", "other", "least", "lines", "beside", "party 0:", "together", "full 0", "keep", "same", "beside", "together", "swap", "free 0 1 1", "circle 0 0"),
		[]string{"0:", "0:", "-", "-", "0,0,0", "-", "-", "not", "no", "no", "no", "no", "0:", "0:", "0:", "2:0-1", "0:", "2:0-1", "0:", "0:", "yes", "0:", "0:", "0:", "0:", "no"},
		[]int{9, 10, 11, 12, 26}, impl.Desk{})
}

func TestScriptsOfManyLines(t *testing.T) {
	first := mustDesk(t, firstParty, firstKept)
	for _, lines := range []int{1, impl.MaxLines - 1, impl.MaxLines} {
		whats := slices.Repeat([]string{"what"}, lines)
		wantScript(t, strings.Repeat("\n", lines), whats, lineNumbers(lines), first)
		wantScript(t, strings.Repeat("fly\n", lines), whats, lineNumbers(lines), first)
		wantScript(t, strings.Repeat("show\n", lines), slices.Repeat([]string{firstParty}, lines), nil, first)
	}
	for _, lines := range []int{impl.MaxLines + 1, impl.MaxLines + 2, 2 * impl.MaxLines, 500} {
		wantNoScript(t, strings.Repeat("\n", lines))
		wantNoScript(t, strings.Repeat("show\n", lines))
	}
}

func TestScriptsOfManyBytes(t *testing.T) {
	first := mustDesk(t, firstParty, firstKept)
	for _, x := range []struct {
		script string
		reply  string
	}{
		{strings.Repeat("x", impl.MaxScript-1) + "\n", "what"},
		{strings.Repeat(" ", impl.MaxScript-2) + "\n", "what"},
		{"circle 5 " + strings.Repeat("1,", (impl.MaxScript-12)/2) + "2\n", "no"},
		{"circle 5 " + strings.Repeat("1,", (impl.MaxScript-12)/2) + "10\n", "no"},
	} {
		wantScript(t, x.script, []string{x.reply}, []int{1}, first)
	}
	behind := strings.Repeat("x", impl.MaxScript-6) + "\n"
	wantScript(t, "show\n"+behind, []string{firstParty, "what"}, []int{2}, first)
	wantNoScript(t, "show\n"+"x"+behind)
	wantNoScript(t, "x"+behind+"show\n")
	for _, text := range []string{strings.Repeat("x", impl.MaxScript) + "\n", strings.Repeat("x", 2*impl.MaxScript) + "\n", strings.Repeat(strings.Repeat(" ", 60)+"\n", impl.MaxLines)} {
		wantNoScript(t, text)
	}
	full := strings.Repeat(strings.Repeat("x", 59)+"\n", impl.MaxLines)
	if len(full) != impl.MaxScript {
		t.Fatal("a full script has", len(full), "bytes")
	}
	wantScript(t, full, slices.Repeat([]string{"what"}, impl.MaxLines), lineNumbers(impl.MaxLines), first)
	wantNoScript(t, "x"+full)
}

func TestTextsThatAreNoScripts(t *testing.T) {
	for _, text := range []string{"show", " ", "x", "\x00", "show\nshow", "show\n ", "\n\nx", "show\r", "show\n\r", "\r", "full 3\nfull", strings.Repeat("x", impl.MaxScript), strings.Repeat("x", impl.MaxScript+1), strings.Repeat("show\n", impl.MaxLines) + "x", strings.Repeat("\n", impl.MaxLines) + "show"} {
		wantNoScript(t, text)
	}
}
