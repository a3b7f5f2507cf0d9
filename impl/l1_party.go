package impl

import (
	"cmp"
	"slices"
	"strconv"
	"strings"
)

const MaxPeople = 12

// maxRenamed is the greatest number of people all of whose ways to rename are looked at.
const maxRenamed = 7

type Pair struct {
	A int
	B int
}

type Party struct {
	People int
	Pairs  []Pair
}

// meeting is a pair of people of a party who are friends or strangers.
type meeting struct {
	Pair
	friends bool
}

func (m meeting) ofFriends() bool { return m.friends }

func (m meeting) ofStrangers() bool { return !m.friends }

// IsParty reports whether p, whose numbers may be any, is a party.
func IsParty(p Party) bool {
	if p.People < 0 || p.People > MaxPeople {
		return false
	}
	for i, pair := range p.Pairs {
		if pair.A < 0 || pair.A >= pair.B || pair.B >= p.People {
			return false
		}
		if i > 0 && comparePairs(p.Pairs[i-1], pair) >= 0 {
			return false
		}
	}
	return true
}

// EmptyParty returns the party of n strangers.
func EmptyParty(n int) (Party, bool) {
	if n < 0 || n > MaxPeople {
		return Party{}, false
	}
	return Party{People: n}, true
}

// FullParty returns the party of n friends.
func FullParty(n int) (Party, bool) {
	return OtherParty(Party{People: n})
}

// AreFriends reports whether two different people are friends.
func AreFriends(p Party, a int, b int) (bool, bool) {
	if !IsParty(p) || !isPerson(p, a) || !isPerson(p, b) || a == b {
		return false, false
	}
	return slices.Contains(p.Pairs, pairOf(a, b)), true
}

// FriendsOf returns the friends of a person, increasing.
func FriendsOf(p Party, a int) ([]int, bool) {
	if !IsParty(p) || !isPerson(p, a) {
		return nil, false
	}
	var friends []int
	// The pairs with a lesser friend come before those with a greater one, so nothing is left to sort.
	for _, pair := range p.Pairs {
		if pair.A == a {
			friends = append(friends, pair.B)
		} else if pair.B == a {
			friends = append(friends, pair.A)
		}
	}
	return friends, true
}

// NumbersOfFriends returns how many friends each person has.
func NumbersOfFriends(p Party) ([]int, bool) {
	if !IsParty(p) {
		return nil, false
	}
	numbers := make([]int, p.People)
	for _, pair := range p.Pairs {
		numbers[pair.A]++
		numbers[pair.B]++
	}
	return numbers, true
}

// AddPair returns the party in which two strangers are friends. It fails if they are.
func AddPair(p Party, a int, b int) (Party, bool) {
	friends, ok := AreFriends(p, a, b)
	if !ok || friends {
		return Party{}, false
	}
	return turned(p, pairOf(a, b)), true
}

// DropPair returns the party in which two friends are strangers. It fails if they are.
func DropPair(p Party, a int, b int) (Party, bool) {
	friends, ok := AreFriends(p, a, b)
	if !ok || !friends {
		return Party{}, false
	}
	return turned(p, pairOf(a, b)), true
}

// OtherParty returns the party in which friends are strangers and strangers friends.
func OtherParty(p Party) (Party, bool) {
	if !IsParty(p) {
		return Party{}, false
	}
	return other(p), true
}

// ChooseParty returns the party of the people in an increasing list, renamed 0, 1, .. in its order.
func ChooseParty(p Party, people []int) (Party, bool) {
	if !IsParty(p) || !isChoice(p, people) {
		return Party{}, false
	}
	chosen := Party{People: len(people)}
	// New names keep the order of the old ones, and with it the order of the pairs.
	for _, pair := range p.Pairs {
		a, hasA := slices.BinarySearch(people, pair.A)
		b, hasB := slices.BinarySearch(people, pair.B)
		if hasA && hasB {
			chosen.Pairs = append(chosen.Pairs, Pair{a, b})
		}
	}
	return chosen, true
}

// RenameParty returns the renamed party: person i becomes person names[i].
func RenameParty(p Party, names []int) (Party, bool) {
	if !IsParty(p) || !isNaming(p, names) {
		return Party{}, false
	}
	return renamed(p, names), true
}

// BesideParty returns the people of p, and, with numbers from the People of p on, those of q, strangers to them.
func BesideParty(p Party, q Party) (Party, bool) {
	if !IsParty(p) || !IsParty(q) || p.People+q.People > MaxPeople {
		return Party{}, false
	}
	return beside(p, q), true
}

// TogetherParty returns the same as BesideParty, but all of p being friends of all of q.
func TogetherParty(p Party, q Party) (Party, bool) {
	if !IsParty(p) || !IsParty(q) || p.People+q.People > MaxPeople {
		return Party{}, false
	}
	// Where strangers are exchanged for friends, the two stand beside each other as strangers.
	return other(beside(other(p), other(q))), true
}

// PartsOfParty returns the greatest sets of people who hang together by friends, each increasing, in the order of their first ones.
func PartsOfParty(p Party) ([][]int, bool) {
	if !IsParty(p) {
		return nil, false
	}
	var parts [][]int
	var place [MaxPeople]int
	for a, first := range firstOnes(p) {
		if a == first {
			place[a] = len(parts)
			parts = append(parts, nil)
		}
		parts[place[first]] = append(parts[place[first]], a)
	}
	return parts, true
}

// LeastParty returns the first one of all renamed parties, for at most 7 people.
func LeastParty(p Party) (Party, bool) {
	if !IsParty(p) || p.People > maxRenamed {
		return Party{}, false
	}
	return least(p), true
}

// AreSame reports whether two parties are the same but for names, the greater one with at most 7 people.
func AreSame(p Party, q Party) (bool, bool) {
	if !IsParty(p) || !IsParty(q) || max(p.People, q.People) > maxRenamed {
		return false, false
	}
	if p.People != q.People || len(p.Pairs) != len(q.Pairs) {
		return false, true
	}
	return slices.Equal(least(p).Pairs, least(q).Pairs), true
}

// CountNamed returns how many different parties renaming makes, for at most 7 people.
func CountNamed(p Party) (int, bool) {
	if !IsParty(p) || p.People > maxRenamed {
		return 0, false
	}
	found := map[uint32]bool{}
	eachRenaming(p, func(names []int, code uint32) { found[code] = true })
	return len(found), true
}

// PartyText returns People, :, and the pairs as A, - and B, with , between them.
func PartyText(p Party) (string, bool) {
	if !IsParty(p) {
		return "", false
	}
	pairs := make([]string, len(p.Pairs))
	for i, pair := range p.Pairs {
		pairs[i] = strconv.Itoa(pair.A) + "-" + strconv.Itoa(pair.B)
	}
	return strconv.Itoa(p.People) + ":" + strings.Join(pairs, ","), true
}

// ParseParty returns the party with a PartyText. It fails if there is none.
func ParseParty(s string) (Party, bool) {
	p, ok := readParty(s)
	if !ok {
		return Party{}, false
	}
	// A text that is read may still have signs, needless zeros or no colon: only the text of the party itself has none of them.
	if text, fine := PartyText(p); !fine || text != s {
		return Party{}, false
	}
	return p, true
}

// readParty reads a text loosely: what it returns need be no party.
func readParty(s string) (Party, bool) {
	people, pairs, _ := strings.Cut(s, ":")
	n, err := strconv.Atoi(people)
	if err != nil {
		return Party{}, false
	}
	p := Party{People: n}
	if pairs == "" {
		return p, true
	}
	for _, text := range strings.Split(pairs, ",") {
		pair, ok := readPair(text)
		if !ok {
			return Party{}, false
		}
		p.Pairs = append(p.Pairs, pair)
	}
	return p, true
}

func readPair(s string) (Pair, bool) {
	first, second, _ := strings.Cut(s, "-")
	a, errA := strconv.Atoi(first)
	b, errB := strconv.Atoi(second)
	return Pair{a, b}, errA == nil && errB == nil
}

func comparePairs(x Pair, y Pair) int {
	return cmp.Or(cmp.Compare(x.A, y.A), cmp.Compare(x.B, y.B))
}

func pairOf(a int, b int) Pair {
	return Pair{min(a, b), max(a, b)}
}

func isPerson(p Party, a int) bool {
	return a >= 0 && a < p.People
}

// isChoice reports whether a list is one of people of a party, increasing.
func isChoice(p Party, people []int) bool {
	for i, a := range people {
		if !isPerson(p, a) || i > 0 && people[i-1] >= a {
			return false
		}
	}
	return true
}

// isNaming reports whether a list has all people of a party, each once.
func isNaming(p Party, names []int) bool {
	if len(names) != p.People {
		return false
	}
	var used [MaxPeople]bool
	for _, a := range names {
		if !isPerson(p, a) || used[a] {
			return false
		}
		used[a] = true
	}
	return true
}

// meetingsOf returns the meetings of all pairs of people of a party, in the order of pairs.
func meetingsOf(p Party) []meeting {
	var meetings []meeting
	told := 0
	for a := range p.People {
		for b := a + 1; b < p.People; b++ {
			pair := Pair{a, b}
			friends := told < len(p.Pairs) && p.Pairs[told] == pair
			if friends {
				told++
			}
			meetings = append(meetings, meeting{pair, friends})
		}
	}
	return meetings
}

// pairsOf returns the pairs of the meetings that are taken, in their order.
func pairsOf(meetings []meeting, taken func(meeting) bool) []Pair {
	var pairs []Pair
	for _, m := range meetings {
		if taken(m) {
			pairs = append(pairs, m.Pair)
		}
	}
	return pairs
}

func other(p Party) Party {
	return Party{People: p.People, Pairs: pairsOf(meetingsOf(p), meeting.ofStrangers)}
}

// turned makes friends of one pair of strangers, or strangers of one pair of friends.
func turned(p Party, pair Pair) Party {
	meetings := meetingsOf(p)
	for i, m := range meetings {
		if m.Pair == pair {
			meetings[i].friends = !m.friends
		}
	}
	return Party{People: p.People, Pairs: pairsOf(meetings, meeting.ofFriends)}
}

func beside(p Party, q Party) Party {
	both := Party{People: p.People + q.People, Pairs: slices.Clone(p.Pairs)}
	for _, pair := range q.Pairs {
		both.Pairs = append(both.Pairs, Pair{pair.A + p.People, pair.B + p.People})
	}
	return both
}

func renamed(p Party, names []int) Party {
	r := Party{People: p.People}
	for _, pair := range p.Pairs {
		r.Pairs = append(r.Pairs, pairOf(names[pair.A], names[pair.B]))
	}
	slices.SortFunc(r.Pairs, comparePairs)
	return r
}

// firstOnes returns for each person of a party the first one of its part.
func firstOnes(p Party) []int {
	first := allPeople(p)
	for _, pair := range p.Pairs {
		low := min(first[pair.A], first[pair.B])
		high := max(first[pair.A], first[pair.B])
		for i, f := range first {
			if f == high {
				first[i] = low
			}
		}
	}
	return first
}

func allPeople(p Party) []int {
	people := make([]int, p.People)
	for i := range people {
		people[i] = i
	}
	return people
}

// least returns the first one of all parties that renaming makes of p, which has at most maxRenamed people.
func least(p Party) Party {
	names := allPeople(p)
	var first uint32
	eachRenaming(p, func(shown []int, code uint32) {
		if code > first {
			first = code
			copy(names, shown)
		}
	})
	return renamed(p, names)
}

// eachRenaming shows each list of names of the people of p, which has at most maxRenamed people, to visit, with the code of the party that it makes.
// A code has a bit for each pair, the first pair as the highest one: of parties with as many pairs, the one with the greater code comes first.
// The shown list changes from visit to visit.
func eachRenaming(p Party, visit func(names []int, code uint32)) {
	bits := bitsOfPairs(p)
	eachOrder(allPeople(p), 0, func(names []int) {
		var code uint32
		for _, pair := range p.Pairs {
			code |= bits[names[pair.A]][names[pair.B]]
		}
		visit(names, code)
	})
}

// bitsOfPairs returns the bit of each pair of people, told from either of both.
func bitsOfPairs(p Party) [maxRenamed][maxRenamed]uint32 {
	var bits [maxRenamed][maxRenamed]uint32
	meetings := meetingsOf(p)
	for i, m := range meetings {
		bit := uint32(1) << (len(meetings) - 1 - i)
		bits[m.A][m.B] = bit
		bits[m.B][m.A] = bit
	}
	return bits
}

// eachOrder shows the list to visit in all orders of its numbers from an index on, and leaves it as it was.
func eachOrder(list []int, from int, visit func([]int)) {
	if from == len(list) {
		visit(list)
		return
	}
	for i := from; i < len(list); i++ {
		list[from], list[i] = list[i], list[from]
		eachOrder(list, from+1, visit)
		list[from], list[i] = list[i], list[from]
	}
}
