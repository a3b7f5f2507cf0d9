package tests

import (
	"math"
	"reflect"
	"strings"
	"testing"

	"loop.example/g01257/impl"
)

// checkNames holds LeastParty and CountNamed of a party against all its renamed ones, and AreSame against each of them.
func checkNames(t *testing.T, p impl.Party) {
	t.Helper()
	least, ok := impl.LeastParty(p)
	if !ok {
		t.Fatal("LeastParty fails", p)
	}
	found := map[string]bool{}
	isThere := false
	for _, names := range allOrders(p.People) {
		q, ok := impl.RenameParty(p, names)
		text, fine := impl.PartyText(q)
		if !ok || !fine {
			t.Fatal("RenameParty", p, names, q, ok)
		}
		if comesBefore(q, least) {
			t.Error("LeastParty of", p, "is", least, "but", q, "comes before")
		}
		isThere = isThere || sameParty(q, least)
		if found[text] {
			continue
		}
		found[text] = true
		if same, ok := impl.AreSame(p, q); !ok || !same {
			t.Error("AreSame", p, q, same, ok)
		}
		if again, ok := impl.LeastParty(q); !ok || !sameParty(again, least) {
			t.Error("LeastParty", q, again, ok, "but", least, "of", p)
		}
	}
	if !isThere {
		t.Error("LeastParty of", p, "is none of its renamed ones:", least)
	}
	if count, ok := impl.CountNamed(p); !ok || count != len(found) {
		t.Error("CountNamed", p, count, ok, "not", len(found))
	}
}

func TestRenamedPartiesAreTheSame(t *testing.T) {
	for _, p := range smallParties(4) {
		checkNames(t, p)
	}
	for _, p := range mixedParties(5, 12) {
		checkNames(t, p)
	}
	for _, p := range mixedParties(6, 3) {
		checkNames(t, p)
	}
	checkNames(t, mustParse(t, "7:0-6,1-5"))
}

// TestKindsOfParties counts the parties that are not the same but for names, by their first ones, and all parties again by their names.
func TestKindsOfParties(t *testing.T) {
	for n, kinds := range []int{1, 1, 2, 4, 11, 34} {
		named := map[string]int{}
		for _, p := range allParties(n) {
			least, ok := impl.LeastParty(p)
			text, fine := impl.PartyText(least)
			count, there := impl.CountNamed(p)
			if !ok || !fine || !there {
				t.Fatal("LeastParty", p, least, ok)
			}
			named[text] = count
		}
		sum := 0
		for _, count := range named {
			sum += count
		}
		if len(named) != kinds || sum != 1<<(n*(n-1)/2) {
			t.Error("kinds of parties of", n, "people:", len(named), sum)
		}
	}
}

func TestAreSame(t *testing.T) {
	parties := smallParties(4)
	for _, p := range parties {
		for _, q := range parties {
			want := false
			for _, names := range allOrders(p.People) {
				r, _ := impl.RenameParty(p, names)
				want = want || sameParty(r, q)
			}
			if same, ok := impl.AreSame(p, q); !ok || same != want {
				t.Error("AreSame", p, q, same, ok)
			}
		}
	}
	for _, x := range []struct {
		p    string
		q    string
		same bool
	}{
		{"7:0-1,0-6,1-2,2-3,3-4,4-5,5-6", "7:", false},
		{"7:0-1,0-6,1-2,2-3,3-4,4-5,5-6", "7:0-2,0-5,1-3,1-6,2-4,3-5,4-6", true},
		{"7:0-6,1-6,2-6,3-6,4-6,5-6", "7:0-1,0-2,0-3,0-4,0-5,0-6", true},
		{"6:0-1,0-2,1-2,3-4,3-5,4-5", "6:0-1,0-5,1-2,2-3,3-4,4-5", false},
		{"7:0-1,0-2,1-2,3-4,3-5,4-5", "7:1-3,1-5,2-4,2-6,3-5,4-6", true},
		{"0:", "7:", false},
		{"7:0-1", "6:0-1", false},
		{"0:", "0:", true},
	} {
		if same, ok := impl.AreSame(mustParse(t, x.p), mustParse(t, x.q)); !ok || same != x.same {
			t.Error("AreSame", x.p, x.q, same, ok)
		}
	}
}

func TestManyPeopleAreNotRenamed(t *testing.T) {
	for n := 0; n <= impl.MaxPeople; n++ {
		for _, p := range mixedParties(n, 3) {
			_, least := impl.LeastParty(p)
			_, count := impl.CountNamed(p)
			_, self := impl.AreSame(p, p)
			_, first := impl.AreSame(p, impl.Party{})
			_, second := impl.AreSame(impl.Party{People: 7}, p)
			for i, ok := range []bool{least, count, self, first, second} {
				if ok != (n <= 7) {
					t.Error("function", i, "of", p, "is", ok)
				}
			}
		}
	}
}

func TestNamesAtTheLimit(t *testing.T) {
	for _, x := range []struct {
		party string
		least string
		count int
	}{
		{"0:", "0:", 1},
		{"1:", "1:", 1},
		{"7:", "7:", 1},
		{"7:5-6", "7:0-1", 21},
		{"7:0-6,1-6,2-6,3-6,4-6,5-6", "7:0-1,0-2,0-3,0-4,0-5,0-6", 7},
		{"7:0-1,0-6,1-2,2-3,3-4,4-5,5-6", "7:0-1,0-2,1-3,2-4,3-5,4-6,5-6", 360},
		{"7:0-1,1-2,2-3,3-4,4-5,5-6", "7:0-1,0-2,1-3,2-4,3-5,4-6", 2520},
	} {
		p := mustParse(t, x.party)
		least, ok := impl.LeastParty(p)
		wantParty(t, "LeastParty of "+x.party, least, ok, x.least)
		if count, ok := impl.CountNamed(p); !ok || count != x.count {
			t.Error("CountNamed", x.party, count, ok)
		}
	}
	full, _ := impl.FullParty(7)
	if least, ok := impl.LeastParty(full); !ok || !sameParty(least, full) {
		t.Error("LeastParty of all friends", least, ok)
	}
}

// partyValues returns the values with which the functions of chapter 1 are tried: right ones and others.
func partyValues(t *testing.T) map[reflect.Type][]reflect.Value {
	values := map[reflect.Type][]reflect.Value{}
	for _, s := range []string{"0:", "1:", "2:", "2:0-1", "3:1-2", "4:0-1,1-2,2-3", "5:0-3,1-4,2-3", "6:0-5,1-4", "7:0-1,0-6,3-4,5-6", "8:0-7,2-3", "12:0-11,1-10,2-9", "12:"} {
		addValues(values, mustParse(t, s))
	}
	for _, n := range []int{5, 7, 12} {
		full, _ := impl.FullParty(n)
		addValues(values, full)
	}
	addValues(values, wrongParties()...)
	addValues(values, extremes...)
	addValues(values, [][]int{nil, {0}, {1}, {0, 1}, {1, 0}, {0, 0}, {0, 1, 2}, {2, 0, 1}, {0, 2, 4}, {3, 1, 0, 2}, {-1, 0}, {0, 1, 2, 3, 4, 5, 6, 7, 8, 9, 10, 11}, {11, 10, 9, 8, 7, 6, 5, 4, 3, 2, 1, 0}, {0, 1, 2, 3, 4, 5, 6, 7, 8, 9, 10, 11, 12}, {math.MinInt, math.MaxInt}}...)
	addValues(values, "", ":", "0:", "12:", "2:0-1", "4:0-1,1-2,2-3", "12:0-11,10-11", "13:", "3:1-0", "3:0-1,0-1", "x", "\xff\x00", strings.Repeat("9", 500), strings.Repeat("0-1,", 500))
	return values
}

func TestPartyCallsKeepTheirArguments(t *testing.T) {
	values := partyValues(t)
	for _, f := range []struct {
		name string
		call any
	}{
		{"IsParty", impl.IsParty},
		{"EmptyParty", impl.EmptyParty},
		{"FullParty", impl.FullParty},
		{"AreFriends", impl.AreFriends},
		{"FriendsOf", impl.FriendsOf},
		{"NumbersOfFriends", impl.NumbersOfFriends},
		{"AddPair", impl.AddPair},
		{"DropPair", impl.DropPair},
		{"OtherParty", impl.OtherParty},
		{"ChooseParty", impl.ChooseParty},
		{"RenameParty", impl.RenameParty},
		{"BesideParty", impl.BesideParty},
		{"TogetherParty", impl.TogetherParty},
		{"PartsOfParty", impl.PartsOfParty},
		{"LeastParty", impl.LeastParty},
		{"AreSame", impl.AreSame},
		{"CountNamed", impl.CountNamed},
		{"PartyText", impl.PartyText},
		{"ParseParty", impl.ParseParty},
	} {
		sweep(t, f.name, f.call, values)
	}
}
