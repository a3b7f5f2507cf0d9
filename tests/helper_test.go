package tests

import (
	"fmt"
	"math"
	"reflect"
	"slices"
	"strconv"
	"testing"

	"loop.example/g01257/impl"
)

// extremes are numbers that may be any.
var extremes = []int{math.MinInt, math.MinInt + 1, math.MinInt32, -13, -2, -1, 0, 1, 2, 3, 6, 7, 8, 11, 12, 13, 66, math.MaxInt32, math.MaxInt - 1, math.MaxInt}

// friendTable tells a party without any order: who is a friend of whom.
type friendTable [impl.MaxPeople][impl.MaxPeople]bool

func tableOf(p impl.Party) friendTable {
	var t friendTable
	for _, x := range p.Pairs {
		t[x.A][x.B] = true
		t[x.B][x.A] = true
	}
	return t
}

func partyOfTable(n int, t friendTable) impl.Party {
	p := impl.Party{People: n}
	for a := 0; a < n; a++ {
		for b := a + 1; b < n; b++ {
			if t[a][b] {
				p.Pairs = append(p.Pairs, impl.Pair{A: a, B: b})
			}
		}
	}
	return p
}

// partyOfCode returns the party of n people in which those pairs are friends, in their order, whose bits of the code are 1.
func partyOfCode(n int, code uint64) impl.Party {
	var t friendTable
	for a := 0; a < n; a++ {
		for b := a + 1; b < n; b++ {
			t[a][b] = code&1 == 1
			code >>= 1
		}
	}
	return partyOfTable(n, t)
}

// allParties returns all parties of n people.
func allParties(n int) []impl.Party {
	var list []impl.Party
	for code := uint64(0); code < 1<<(n*(n-1)/2); code++ {
		list = append(list, partyOfCode(n, code))
	}
	return list
}

// smallParties returns all parties of at most n people.
func smallParties(n int) []impl.Party {
	var list []impl.Party
	for k := 0; k <= n; k++ {
		list = append(list, allParties(k)...)
	}
	return list
}

// mixedParties returns some parties of n people, the same ones each time.
func mixedParties(n int, count int) []impl.Party {
	var list []impl.Party
	z := uint64(n + 1)
	for range count {
		var t friendTable
		z = z*6364136223846793005 + 1442695040888963407
		among := 1 + z>>40%5
		for a := 0; a < n; a++ {
			for b := a + 1; b < n; b++ {
				z = z*6364136223846793005 + 1442695040888963407
				t[a][b] = z>>33%6 < among
			}
		}
		list = append(list, partyOfTable(n, t))
	}
	return list
}

// wrongParties returns values that are no parties.
func wrongParties() []impl.Party {
	pairs := func(numbers ...int) []impl.Pair {
		var list []impl.Pair
		for i := 0; i+1 < len(numbers); i += 2 {
			list = append(list, impl.Pair{A: numbers[i], B: numbers[i+1]})
		}
		return list
	}
	return []impl.Party{
		{People: -1}, {People: 13}, {People: math.MaxInt}, {People: math.MinInt},
		{People: 13, Pairs: pairs(0, 1)},
		{People: 13, Pairs: pairs(11, 12)},
		{People: -1, Pairs: pairs(0, 1)},
		{People: 0, Pairs: pairs(0, 0)},
		{People: 0, Pairs: pairs(0, 1)},
		{People: 1, Pairs: pairs(0, 0)},
		{People: 1, Pairs: pairs(0, 1)},
		{People: 2, Pairs: pairs(0, 2)},
		{People: 2, Pairs: pairs(1, 0)},
		{People: 2, Pairs: pairs(-1, 0)},
		{People: 2, Pairs: pairs(-2, -1)},
		{People: 2, Pairs: pairs(1, 1)},
		{People: 2, Pairs: pairs(0, 1, 0, 1)},
		{People: 3, Pairs: pairs(0, 2, 0, 1)},
		{People: 3, Pairs: pairs(1, 2, 0, 1)},
		{People: 3, Pairs: pairs(0, 1, 1, 2, 1, 2)},
		{People: 3, Pairs: pairs(0, 1, 1, 2, 0, 2)},
		{People: 3, Pairs: pairs(0, 1, 2, 1)},
		{People: 3, Pairs: pairs(0, 1, 1, 3)},
		{People: 4, Pairs: pairs(0, 3, 2, 3, 1, 2)},
		{People: 7, Pairs: pairs(0, 1, 5, 7)},
		{People: 7, Pairs: pairs(math.MinInt, 1)},
		{People: 7, Pairs: pairs(0, math.MaxInt)},
		{People: 12, Pairs: pairs(10, 12)},
		{People: 12, Pairs: pairs(math.MinInt, math.MaxInt)},
		{People: 12, Pairs: make([]impl.Pair, 70)},
	}
}

// allOrders returns all lists of the numbers 0 up to n - 1, each once.
func allOrders(n int) [][]int {
	if n == 0 {
		return [][]int{{}}
	}
	var list [][]int
	for _, o := range allOrders(n - 1) {
		for i := 0; i <= len(o); i++ {
			list = append(list, slices.Insert(slices.Clone(o), i, n-1))
		}
	}
	return list
}

// allChoices returns all increasing lists of numbers less than n.
func allChoices(n int) [][]int {
	var list [][]int
	for code := 0; code < 1<<n; code++ {
		var choice []int
		for a := 0; a < n; a++ {
			if code>>a&1 == 1 {
				choice = append(choice, a)
			}
		}
		list = append(list, choice)
	}
	return list
}

func sameParty(p impl.Party, q impl.Party) bool {
	return p.People == q.People && slices.Equal(p.Pairs, q.Pairs)
}

func isZeroParty(p impl.Party) bool {
	return p.People == 0 && len(p.Pairs) == 0
}

// comesBefore reports whether p comes before q in the order of parties of as many people.
func comesBefore(p impl.Party, q impl.Party) bool {
	for i, x := range p.Pairs {
		if i == len(q.Pairs) {
			return false
		}
		if y := q.Pairs[i]; x != y {
			return x.A < y.A || x.A == y.A && x.B < y.B
		}
	}
	return len(p.Pairs) < len(q.Pairs)
}

func mustParse(t *testing.T, s string) impl.Party {
	t.Helper()
	p, ok := impl.ParseParty(s)
	if !ok {
		t.Fatalf("ParseParty(%q) fails", s)
	}
	return p
}

func wantParty(t *testing.T, what string, p impl.Party, ok bool, want string) {
	t.Helper()
	s, fine := impl.PartyText(p)
	if !ok || !fine || s != want {
		t.Errorf("%s: %q %v, not %q", what, s, ok, want)
	}
}

// changedTexts returns all texts that one byte more, one byte less or another byte makes of right ones, which themselves may be among them.
func changedTexts(right ...string) []string {
	var changed []string
	for _, s := range right {
		for i := range len(s) + 1 {
			for c := range 256 {
				changed = append(changed, s[:i]+string([]byte{byte(c)})+s[i:])
				if i < len(s) {
					changed = append(changed, s[:i]+string([]byte{byte(c)})+s[i+1:])
				}
			}
			if i < len(s) {
				changed = append(changed, s[:i]+s[i+1:])
			}
		}
	}
	return changed
}

// grown returns a deep copy of a value, in which each slice has room behind its length, full of copies of what lies there.
func grown(v reflect.Value, behind func(reflect.Type) reflect.Value) reflect.Value {
	c := reflect.New(v.Type()).Elem()
	switch v.Kind() {
	case reflect.Slice:
		long := reflect.MakeSlice(v.Type(), v.Len()+3, v.Len()+3)
		for i := 0; i < long.Len(); i++ {
			if i < v.Len() {
				long.Index(i).Set(grown(v.Index(i), behind))
			} else {
				long.Index(i).Set(behind(v.Type().Elem()))
			}
		}
		c.Set(long.Slice(0, v.Len()))
	case reflect.Struct:
		for i := 0; i < v.NumField(); i++ {
			c.Field(i).Set(grown(v.Field(i), behind))
		}
	default:
		c.Set(v)
	}
	return c
}

// filler returns a maker of values whose numbers are all the same one.
func filler(number int) func(reflect.Type) reflect.Value {
	var fill func(t reflect.Type) reflect.Value
	fill = func(t reflect.Type) reflect.Value {
		v := reflect.New(t).Elem()
		switch t.Kind() {
		case reflect.Int:
			v.SetInt(int64(number))
		case reflect.Struct:
			for i := 0; i < t.NumField(); i++ {
				v.Field(i).Set(fill(t.Field(i).Type))
			}
		}
		return v
	}
	return fill
}

// written tells a value, behind what is told already, with all that lies behind its slices, if that is asked for.
func written(told []byte, v reflect.Value, behind bool) []byte {
	switch v.Kind() {
	case reflect.Slice:
		if behind {
			v = v.Slice(0, v.Cap())
		}
		told = append(told, '[')
		for i := 0; i < v.Len(); i++ {
			told = append(written(told, v.Index(i), behind), ' ')
		}
		return append(told, ']')
	case reflect.Struct:
		told = append(told, '{')
		for i := 0; i < v.NumField(); i++ {
			told = append(written(told, v.Field(i), behind), ' ')
		}
		return append(told, '}')
	case reflect.Int:
		return strconv.AppendInt(told, v.Int(), 10)
	}
	return fmt.Appendf(told, "%#v", v.Interface())
}

// room is the memory of a slice with all that lies behind it.
type room struct {
	from uintptr
	to   uintptr
}

func roomsOf(v reflect.Value) []room {
	var list []room
	switch v.Kind() {
	case reflect.Slice:
		if size := uintptr(v.Cap()) * v.Type().Elem().Size(); size > 0 {
			list = append(list, room{v.Pointer(), v.Pointer() + size})
		}
		for i := 0; i < v.Len(); i++ {
			list = append(list, roomsOf(v.Index(i))...)
		}
	case reflect.Struct:
		for i := 0; i < v.NumField(); i++ {
			list = append(list, roomsOf(v.Field(i))...)
		}
	}
	return list
}

func isNothing(v reflect.Value) bool {
	switch v.Kind() {
	case reflect.Slice:
		return v.Len() == 0
	case reflect.Struct:
		for i := 0; i < v.NumField(); i++ {
			if !isNothing(v.Field(i)) {
				return false
			}
		}
		return true
	}
	return v.IsZero()
}

func callAll(f reflect.Value, args []reflect.Value) (results []reflect.Value, broken any) {
	defer func() { broken = recover() }()
	return f.Call(args), nil
}

func writtenAll(values []reflect.Value, behind bool) string {
	var told []byte
	for _, v := range values {
		told = append(written(told, v, behind), "; "...)
	}
	return string(told)
}

// grownAll returns copies of values with a number behind all slices.
func grownAll(values []reflect.Value, number int) []reflect.Value {
	var list []reflect.Value
	for _, v := range values {
		list = append(list, grown(v, filler(number)))
	}
	return list
}

// checkCall calls a function twice, with different numbers behind its arguments' slices, and checks what all functions promise.
func checkCall(t *testing.T, name string, f reflect.Value, args []reflect.Value) {
	t.Helper()
	var first string
	for i, number := range []int{1, -77} {
		given := grownAll(args, number)
		before := writtenAll(given, true)
		results, broken := callAll(f, given)
		if broken != nil {
			t.Errorf("%s of %s panics: %v", name, writtenAll(args, false), broken)
			return
		}
		if writtenAll(given, true) != before {
			t.Errorf("%s changes its arguments %s", name, writtenAll(args, false))
		}
		checkRooms(t, name, given, results)
		if i == 0 {
			first = writtenAll(results, false)
		} else if now := writtenAll(results, false); now != first {
			t.Errorf("%s of %s returns %s, but then %s", name, writtenAll(args, false), first, now)
		}
		last := results[len(results)-1]
		if last.Kind() != reflect.Bool || last.Bool() || len(results) == 1 {
			continue
		}
		for _, r := range results {
			if !isNothing(r) {
				t.Errorf("%s of %s fails with %s", name, writtenAll(args, false), first)
			}
		}
	}
}

// checkRooms checks that results share no memory with arguments or with each other.
func checkRooms(t *testing.T, name string, args []reflect.Value, results []reflect.Value) {
	t.Helper()
	var taken []room
	for _, a := range args {
		taken = append(taken, roomsOf(a)...)
	}
	for _, r := range results {
		for _, x := range roomsOf(r) {
			for _, y := range taken {
				if x.from < y.to && y.from < x.to {
					t.Errorf("%s of %s: memory of the result is used twice", name, writtenAll(args, false))
				}
			}
			taken = append(taken, x)
		}
	}
}

// sweep calls a function with all combinations of values, for each parameter those of its type.
func sweep(t *testing.T, name string, function any, values map[reflect.Type][]reflect.Value) {
	t.Helper()
	f := reflect.ValueOf(function)
	var choose func(args []reflect.Value)
	choose = func(args []reflect.Value) {
		if len(args) == f.Type().NumIn() {
			checkCall(t, name, f, args)
			return
		}
		list := values[f.Type().In(len(args))]
		if len(list) == 0 {
			t.Fatalf("%s: no values of type %s", name, f.Type().In(len(args)))
		}
		for _, v := range list {
			choose(append(slices.Clone(args), v))
		}
	}
	choose(nil)
}

// addValues puts values of one type where sweep finds them.
func addValues[T any](values map[reflect.Type][]reflect.Value, list ...T) {
	for _, v := range list {
		values[reflect.TypeFor[T]()] = append(values[reflect.TypeFor[T]()], reflect.ValueOf(v))
	}
}
