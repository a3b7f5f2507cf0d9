package tests

import (
	"fmt"
	"reflect"
	"regexp"
	"slices"
	"strconv"
	"strings"
	"testing"

	"loop.example/g01257/impl"
)

// toldWords are what the words of a line tell, behind the first one.
type toldWords struct {
	party   impl.Party
	numbers []int
	list    []int
}

// deed is what a line does to a desk. It fails if the call does that the line names.
type deed func(d impl.Desk, w toldWords) (impl.Desk, string, bool)

// becomes is the deed of a line behind which the Party is what a call returns.
func becomes(call func(d impl.Desk, w toldWords) (impl.Party, bool)) deed {
	return func(d impl.Desk, w toldWords) (impl.Desk, string, bool) {
		p, ok := call(d, w)
		reply, _ := impl.PartyText(p)
		return impl.Desk{Party: p, Kept: d.Kept}, reply, ok
	}
}

// asks is the deed of a line to which the reply is what a call returns.
func asks(call func(d impl.Desk, w toldWords) (any, bool)) deed {
	return func(d impl.Desk, w toldWords) (impl.Desk, string, bool) {
		answer, ok := call(d, w)
		return d, textOf(answer), ok
	}
}

func commaText(list []int) string {
	return strings.ReplaceAll(strings.Trim(fmt.Sprint(list), "[]"), " ", ",")
}

func textOf(answer any) string {
	text := ""
	switch x := answer.(type) {
	case []int:
		text = commaText(x)
	case [][]int:
		for i, list := range x {
			text += strings.Repeat("/", min(i, 1)) + commaText(list)
		}
	case bool:
		return map[bool]string{true: "yes", false: "not"}[x]
	default:
		return fmt.Sprint(x)
	}
	if text == "" {
		return "-"
	}
	return text
}

// deeds are the lines of the document's table.
var deeds = map[string]deed{
	"party P":   becomes(func(d impl.Desk, w toldWords) (impl.Party, bool) { return w.party, true }),
	"full N":    becomes(func(d impl.Desk, w toldWords) (impl.Party, bool) { return impl.FullParty(w.numbers[0]) }),
	"mill N":    becomes(func(d impl.Desk, w toldWords) (impl.Party, bool) { return impl.WindmillParty(w.numbers[0]) }),
	"couples N": becomes(func(d impl.Desk, w toldWords) (impl.Party, bool) { return impl.CouplesParty(w.numbers[0]) }),
	"circle N L": becomes(func(d impl.Desk, w toldWords) (impl.Party, bool) {
		return impl.CircleParty(w.numbers[0], w.list)
	}),
	"add N N": becomes(func(d impl.Desk, w toldWords) (impl.Party, bool) {
		return impl.AddPair(d.Party, w.numbers[0], w.numbers[1])
	}),
	"drop N N": becomes(func(d impl.Desk, w toldWords) (impl.Party, bool) {
		return impl.DropPair(d.Party, w.numbers[0], w.numbers[1])
	}),
	"other":    becomes(func(d impl.Desk, w toldWords) (impl.Party, bool) { return impl.OtherParty(d.Party) }),
	"least":    becomes(func(d impl.Desk, w toldWords) (impl.Party, bool) { return impl.LeastParty(d.Party) }),
	"lines":    becomes(func(d impl.Desk, w toldWords) (impl.Party, bool) { return impl.LinesOf(d.Party) }),
	"beside":   becomes(func(d impl.Desk, w toldWords) (impl.Party, bool) { return impl.BesideParty(d.Party, d.Kept) }),
	"together": becomes(func(d impl.Desk, w toldWords) (impl.Party, bool) { return impl.TogetherParty(d.Party, d.Kept) }),
	"free N N N": becomes(func(d impl.Desk, w toldWords) (impl.Party, bool) {
		return impl.FirstNeither(w.numbers[0], w.numbers[1], w.numbers[2])
	}),
	"keep": func(d impl.Desk, w toldWords) (impl.Desk, string, bool) {
		reply, ok := impl.PartyText(d.Party)
		return impl.Desk{Party: d.Party, Kept: d.Party}, reply, ok
	},
	"swap": func(d impl.Desk, w toldWords) (impl.Desk, string, bool) {
		reply, ok := impl.PartyText(d.Kept)
		return impl.Desk{Party: d.Kept, Kept: d.Party}, reply, ok
	},
	"show":    asks(func(d impl.Desk, w toldWords) (any, bool) { return both(impl.PartyText(d.Party)) }),
	"numbers": asks(func(d impl.Desk, w toldWords) (any, bool) { return both(impl.NumbersOfFriends(d.Party)) }),
	"parts":   asks(func(d impl.Desk, w toldWords) (any, bool) { return both(impl.PartsOfParty(d.Party)) }),
	"threes": asks(func(d impl.Desk, w toldWords) (any, bool) {
		friends, strangers, mixed, ok := impl.CountThrees(d.Party)
		return []int{friends, strangers, mixed}, ok
	}),
	"group":   asks(func(d impl.Desk, w toldWords) (any, bool) { return both(impl.GreatestGroup(d.Party)) }),
	"strange": asks(func(d impl.Desk, w toldWords) (any, bool) { return both(impl.GreatestStrange(d.Party)) }),
	"same":    asks(func(d impl.Desk, w toldWords) (any, bool) { return both(impl.AreSame(d.Party, d.Kept)) }),
	"strong":  asks(func(d impl.Desk, w toldWords) (any, bool) { return both(impl.StrongNumbers(d.Party)) }),
	"round":   asks(func(d impl.Desk, w toldWords) (any, bool) { return both(impl.ShortestRound(d.Party)) }),
	"width":   asks(func(d impl.Desk, w toldWords) (any, bool) { return both(impl.WidestDistance(d.Party)) }),
	"walks N N N": asks(func(d impl.Desk, w toldWords) (any, bool) {
		return both(impl.CountWalks(d.Party, w.numbers[0], w.numbers[1], w.numbers[2]))
	}),
}

func both[T any](value T, ok bool) (any, bool) {
	return value, ok
}

// These are what N, L and P stand for, as far as a pattern tells it.
const numberPattern = `(0|[1-9][0-9]{0,5})`
const listPattern = `((?:0|[1-9][0-9]{0,5})(?:,(?:0|[1-9][0-9]{0,5}))*)`
const wordPattern = `([^ ]*)`

// patterns tell how the lines of the table are written.
var patterns = func() map[string]*regexp.Regexp {
	stands := strings.NewReplacer(" N", " "+numberPattern, " L", " "+listPattern, " P", " "+wordPattern)
	all := map[string]*regexp.Regexp{}
	for line := range deeds {
		all[line] = regexp.MustCompile(`\A` + stands.Replace(line) + `\z`)
	}
	return all
}()

// wordsOf reads the words that a pattern of a line has found. It fails if one shall be a PartyText and is none.
func wordsOf(line string, found []string) (toldWords, bool) {
	var w toldWords
	for i, kind := range strings.Split(line, " ")[1:] {
		switch kind {
		case "P":
			p, ok := impl.ParseParty(found[i])
			if !ok {
				return w, false
			}
			w.party = p
		case "L":
			for _, text := range strings.Split(found[i], ",") {
				number, _ := strconv.Atoi(text)
				w.list = append(w.list, number)
			}
		default:
			number, _ := strconv.Atoi(found[i])
			w.numbers = append(w.numbers, number)
		}
	}
	return w, true
}

// doneByTable returns the desk behind a line and its reply as the table tells them.
func doneByTable(d impl.Desk, line string) (impl.Desk, string) {
	first, _, _ := strings.Cut(line, " ")
	for told, pattern := range patterns {
		// Only such lines need to be looked at.
		if !strings.HasPrefix(told, first) {
			continue
		}
		found := pattern.FindStringSubmatch(line)
		if found == nil {
			continue
		}
		w, ok := wordsOf(told, found[1:])
		if !ok {
			return d, "what"
		}
		after, reply, ok := deeds[told](d, w)
		if !ok {
			return d, "no"
		}
		return after, reply
	}
	return d, "what"
}

func checkLine(t *testing.T, d impl.Desk, line string) {
	t.Helper()
	after, reply := doneByTable(d, line)
	wantLine(t, d, line, reply, after)
}

// checkScript holds a script against its lines, executed one by one, by the table and by DeskLine.
func checkScript(t *testing.T, lines []string) {
	t.Helper()
	d := impl.FirstDesk()
	e := impl.FirstDesk()
	var replies []string
	var failed []int
	for i, line := range lines {
		var reply string
		d, reply = doneByTable(d, line)
		replies = append(replies, reply)
		if reply == "no" || reply == "what" {
			failed = append(failed, i+1)
		}
		var again string
		var ok bool
		e, again, ok = impl.DeskLine(e, line)
		if !ok || again != reply || !sameDesk(d, e) {
			t.Errorf("line %d of %q: %v %q %v, not %v %q", i+1, lines, e, again, ok, d, reply)
		}
	}
	wantScript(t, scriptOf(lines...), replies, failed, d)
}

// someLines are lines of all kinds with an effect, and some with no and with what, on one desk or another.
var someLines = []string{
	"party 0:", "party 1:", "party 2:", "party 4:0-1,1-2,2-3", "party 6:0-1,0-2,1-2,3-4,3-5,4-5", "party 7:0-6,1-2", "party 12:0-1,10-11", "party 13:", "party 2:1-0",
	"full 0", "full 1", "full 3", "full 5", "full 12", "full 13", "full 03", "mill 0", "mill 2", "mill 5", "mill 6", "couples 0", "couples 1", "couples 3", "couples 6", "couples 7",
	"circle 1 0", "circle 4 2", "circle 5 1", "circle 6 2,3", "circle 7 1,2", "circle 8 1,4", "circle 12 1,2,3,4,5,6", "circle 12 7", "circle 5 1,", "circle 5 2,1",
	"add 0 1", "add 0 2", "add 2 0", "add 1 3", "add 3 4", "add 11 0", "add 1 1", "drop 0 1", "drop 1 0", "drop 1 2", "drop 0 4", "drop 10 11", "drop 2 2",
	"other", "least", "lines", "keep", "swap", "beside", "together", "free 0 1 1", "free 1 2 2", "free 4 2 4", "free 4 4 2", "free 5 3 3", "free 6 3 4", "free 7 4 3", "free 6 3 3", "free 9 4 4", "free 5 3",
	"show", "numbers", "parts", "threes", "group", "strange", "same", "strong", "round", "width",
	"walks 0 0 0", "walks 0 0 2", "walks 0 1 1", "walks 1 2 3", "walks 2 0 10", "walks 4 3 9", "walks 11 0 5", "walks 0 0 11", "walks 0 0",
	"", " ", "fly", "no", "what", "show ", " keep", "swap 1",
}

func TestLinesOnAllSmallDesks(t *testing.T) {
	for _, kept := range []string{"0:", "1:", "2:0-1", "4:0-2,1-2,1-3", "9:0-8"} {
		for _, p := range smallParties(4) {
			d := impl.Desk{Party: p, Kept: mustParse(t, kept)}
			for _, line := range someLines {
				checkLine(t, d, line)
			}
		}
	}
}

func TestLinesOnSomeDesks(t *testing.T) {
	var kept []impl.Party
	for n := 0; n <= impl.MaxPeople; n++ {
		kept = append(kept, mixedParties(n, 2)...)
	}
	for n := 5; n <= impl.MaxPeople; n++ {
		for _, p := range mixedParties(n, 3) {
			for _, q := range kept {
				for _, line := range someLines {
					checkLine(t, impl.Desk{Party: p, Kept: q}, line)
				}
			}
		}
	}
}

// TestLinesWithAllNumbers tries the lines with numbers with all that a call may take, and some more.
func TestLinesWithAllNumbers(t *testing.T) {
	d := mustDesk(t, "7:0-1,0-2,1-2,2-3,4-5", "3:0-1")
	numbers := []int{0, 1, 2, 3, 4, 5, 6, 7, 8, 9, 10, 11, 12, 13, 99, 999998, 999999, 1000000}
	for _, a := range numbers {
		for _, name := range []string{"full", "mill", "couples", "party", "circle", "show"} {
			checkLine(t, d, fmt.Sprintf("%s %d", name, a))
		}
		for _, b := range numbers {
			for _, name := range []string{"add", "drop", "circle", "walks", "free", "keep"} {
				checkLine(t, d, fmt.Sprintf("%s %d %d", name, a, b))
			}
			for _, c := range numbers {
				for _, line := range []string{"walks %d %d %d", "free %d %d %d", "circle %d %d,%d", "add %d %d %d"} {
					checkLine(t, d, fmt.Sprintf(line, a, b, c))
				}
			}
		}
	}
}

func TestChangedLines(t *testing.T) {
	d := mustDesk(t, "5:0-1,0-4,1-2,2-3", "4:0-1,0-2")
	lines := []string{"party 3:0-1,1-2", "full 3", "mill 2", "couples 2", "circle 9 1,2", "add 0 2", "drop 0 1", "other", "least", "lines", "keep", "swap", "beside", "together", "free 5 3 3", "show", "numbers", "parts", "threes", "group", "strange", "same", "strong", "round", "width", "walks 0 1 3"}
	for _, line := range changedTexts(lines...) {
		if strings.Contains(line, "\n") {
			if after, reply, ok := impl.DeskLine(d, line); ok || reply != "" || !isZeroDesk(after) {
				t.Errorf("DeskLine of %q: %v %q %v, not failed", line, after, reply, ok)
			}
			continue
		}
		checkLine(t, d, line)
	}
}

// TestLinesOfManyWords takes words from the lines' ends, and puts words there.
func TestLinesOfManyWords(t *testing.T) {
	d := mustDesk(t, firstParty, firstKept)
	for _, line := range someLines {
		words := strings.Split(line, " ")
		for count := range words {
			checkLine(t, d, strings.Join(words[:count], " "))
			checkLine(t, d, strings.Join(slices.Insert(slices.Clone(words), count, ""), " "))
			checkLine(t, d, strings.Join(words, " ")+strings.Repeat(" 1", count+1))
		}
		checkLine(t, d, line+" ")
		checkLine(t, d, line+" "+line)
	}
	for _, first := range []string{"party", "full", "mill", "couples", "circle", "add", "drop", "other", "least", "lines", "keep", "swap", "beside", "together", "free", "show", "numbers", "parts", "threes", "group", "strange", "same", "strong", "round", "width", "walks", "fly", ""} {
		for _, rest := range []string{"", " ", " 0", " 2", " 2:0-1", " 0,1", " 1 2", " 2 1", " 5 1,2", " 1 2 3", " 5 3 3", " 1 2 3 4", " 1 2 3 4 5"} {
			checkLine(t, d, first+rest)
		}
	}
}

// mixedScript returns so many of someLines, the same ones each time.
func mixedScript(count int, seed int) []string {
	var lines []string
	z := uint64(seed + 1)
	for range count {
		z = z*6364136223846793005 + 1442695040888963407
		lines = append(lines, someLines[z>>33%uint64(len(someLines))])
	}
	return lines
}

func TestMixedScripts(t *testing.T) {
	for seed := range 600 {
		checkScript(t, mixedScript(impl.MaxLines, seed))
	}
	for count := range impl.MaxLines {
		checkScript(t, mixedScript(count, count))
	}
}

func TestAllScriptsOfTwoLines(t *testing.T) {
	for _, first := range someLines {
		for _, second := range someLines {
			checkScript(t, []string{first, second})
		}
	}
}

// TestTextsOfScripts holds texts against what the document says of scripts.
func TestTextsOfScripts(t *testing.T) {
	script := regexp.MustCompile(`\A(?s:([^\n]*\n)*)\z`)
	check := func(text string) {
		if len(text) > impl.MaxScript || strings.Count(text, "\n") > impl.MaxLines || !script.MatchString(text) {
			wantNoScript(t, text)
			return
		}
		lines := strings.Split(text, "\n")
		checkScript(t, lines[:len(lines)-1])
	}
	for _, text := range changedTexts("", "\n", "show\n", "full 3\nother\n", "keep\n\nswap\n") {
		check(text)
	}
	for length := impl.MaxScript - 3; length <= impl.MaxScript+3; length++ {
		for _, end := range []string{"", "x", "\n", "\n\n", "\nx", "\nshow\n", "\nfull 3\nkeep\n"} {
			check(strings.Repeat("x", length-len(end)) + end)
			check("show\n" + strings.Repeat(" ", length-len(end)-5) + end)
		}
	}
	for lines := impl.MaxLines - 3; lines <= impl.MaxLines+3; lines++ {
		for _, line := range []string{"", "show", "swap", "full 3", "mill 9"} {
			for _, end := range []string{"", "x", "\n", "show", "\n\n"} {
				check(strings.Repeat(line+"\n", lines) + end)
			}
		}
	}
}

// TestDeskResultsAreNew writes into results: neither the arguments, nor the other party of the desk, nor later results may change.
func TestDeskResultsAreNew(t *testing.T) {
	spoil := func(d impl.Desk) {
		for _, pairs := range [][]impl.Pair{d.Party.Pairs, d.Kept.Pairs} {
			for i := range pairs[:cap(pairs)] {
				pairs[:cap(pairs)][i] = impl.Pair{A: -7, B: -7}
			}
		}
	}
	for _, line := range someLines {
		d := mustDesk(t, firstParty, "3:0-1,1-2")
		first, _, _ := impl.DeskLine(d, line)
		second, _, _ := impl.DeskLine(d, line)
		kept := mustParse(t, "3:0-1,1-2")
		spoil(first)
		if !sameDesk(d, impl.Desk{Party: mustParse(t, firstParty), Kept: kept}) {
			t.Errorf("the desk behind %q shares memory with the one before: %v", line, d)
		}
		after, _ := doneByTable(d, line)
		if !sameDesk(second, after) {
			t.Errorf("desks behind %q share memory: %v", line, second)
		}
		for i := range second.Party.Pairs {
			second.Party.Pairs[i] = impl.Pair{A: -7, B: -7}
		}
		if !sameParty(second.Kept, after.Kept) {
			t.Errorf("the Party and Kept behind %q share memory: %v", line, second)
		}
		script := scriptOf(line)
		want, _ := impl.DeskAfter(script)
		text := fmt.Sprint(want)
		spoil(want)
		if again, ok := impl.DeskAfter(script); !ok || fmt.Sprint(again) != text {
			t.Errorf("DeskAfter(%q): %v, but before %v", script, again, text)
		}
	}
}

// deskValues returns the values with which the functions of chapter 10 are tried: right ones and others.
func deskValues(t *testing.T) map[reflect.Type][]reflect.Value {
	values := map[reflect.Type][]reflect.Value{}
	addValues(values, someLines...)
	addValues(values, "\n", "show\n", "keep\nother\nswap\n", "full 4\nkeep\nbeside\ntogether\nleast\nsame\n", "show", "show\nshow", "\xff\n", "\x00", "party \xff", "add -1 9223372036854775808\n",
		strings.Repeat("\n", impl.MaxLines), strings.Repeat("\n", impl.MaxLines+1), strings.Repeat("x", impl.MaxScript), strings.Repeat("x", impl.MaxScript+1), strings.Repeat("x", impl.MaxScript-1)+"\n",
		"circle 5 "+strings.Repeat("1,", 1000)+"1", "party 12:"+strings.Repeat("0-1,", 700)+"\n", strings.Repeat("party ", 400))
	for _, line := range someLines {
		addValues(values, scriptOf(line))
	}
	for seed := range 5 {
		addValues(values, scriptOf(mixedScript(impl.MaxLines, seed)...))
	}
	right := []string{"0:", "1:", "2:0-1", "3:0-1,1-2", firstParty, "7:0-1,2-5,3-6", "8:0-7", "12:", "12:0-1,4-5,10-11"}
	for _, party := range right {
		for _, kept := range right {
			addValues(values, mustDesk(t, party, kept))
		}
	}
	for _, p := range wrongParties() {
		q := mustParse(t, firstParty)
		addValues(values, impl.Desk{Party: p, Kept: q}, impl.Desk{Party: q, Kept: p}, impl.Desk{Party: p, Kept: p})
	}
	return values
}

func TestDeskCallsKeepTheirArguments(t *testing.T) {
	values := deskValues(t)
	for _, f := range []struct {
		name string
		call any
	}{
		{"FirstDesk", impl.FirstDesk},
		{"IsDesk", impl.IsDesk},
		{"DeskLine", impl.DeskLine},
		{"RunScript", impl.RunScript},
		{"DeskAfter", impl.DeskAfter},
		{"FailedLines", impl.FailedLines},
	} {
		sweep(t, f.name, f.call, values)
	}
}
