package spell

import (
	"fmt"
	"math"
	"reflect"
	"slices"
	"testing"

	"squeal/api"
)

// textOf is a tape as text: lists that are nil or empty are one there.
func textOf(x api.Tape) string {
	return fmt.Sprintf("%v", x)
}

// sameText is whether two tapes are the same, as text if need be: that takes
// long.
func sameText(a, b api.Tape) bool {
	return reflect.DeepEqual(a, b) || textOf(a) == textOf(b)
}

func checkSame(t *testing.T, what string, a, b api.Tape, want bool) {
	t.Helper()
	if Same(a, b) != want || Same(b, a) != want {
		t.Fatalf("%s: Same of %.300v and %.300v is %v", what, a, b, !want)
	}
}

// rich is a tape in which all parts stand, twice or more, some as no file has
// them.
func rich() api.Tape {
	block := func(n int) api.Block {
		return api.Block{
			ID: n, Pause: n + 1, Pilot: n + 2, Sync1: n + 3, Sync2: n + 4, Zero: n + 5, One: n + 6, Tone: n + 7,
			Count: n + 8, Used: n + 9, Rate: n + 10, Pack: n + 11,
			Data: []byte{1, 2, byte(n)}, Times: []int{4, -5, n},
			Items:  []api.Item{{N: 6, Text: []byte{7, 8}}, {N: n, Text: []byte{9}}, {Text: []byte{}}},
			Pilots: []api.Sym{{Kind: n, Pulses: []int{10, 11}}, {Pulses: []int{12}}},
			Syms:   []api.Sym{{Kind: 13, Pulses: []int{14, n}}, {Kind: 15}},
			Reps:   []api.Rep{{Sym: 16, Times: 17}, {Sym: n, Times: 18}},
		}
	}
	return api.Tape{Major: 1, Minor: 20, Blocks: []api.Block{block(30), {}, block(-40), {ID: 39}}}
}

// leaves is all numbers and lists of v, each with its way there.
func leaves(v reflect.Value, way string, each func(reflect.Value, string)) {
	switch v.Kind() {
	case reflect.Struct:
		for i := range v.NumField() {
			leaves(v.Field(i), way+"."+v.Type().Field(i).Name, each)
		}
	case reflect.Slice:
		each(v, way)
		for i := range v.Len() {
			leaves(v.Index(i), fmt.Sprintf("%s[%d]", way, i), each)
		}
	default:
		each(v, way)
	}
}

// changes is all ways to change one number, or how long a list is.
func changes(v reflect.Value) []func() {
	switch v.Kind() {
	case reflect.Int:
		set := func(n int64) func() { return func() { v.SetInt(n) } }
		n := v.Int()
		return []func(){set(n + 1), set(n - 1), set(^n), set(n ^ 1<<8), set(n ^ 1<<16), set(n ^ 1<<32), set(math.MinInt64), set(math.MaxInt64)}
	case reflect.Uint8:
		n := v.Uint()
		return []func(){func() { v.SetUint(n ^ 1) }, func() { v.SetUint(n ^ 128) }}
	}
	more := func() { v.Set(reflect.Append(v, reflect.Zero(v.Type().Elem()))) }
	none := func() { v.SetZero() }
	if v.Len() == 0 {
		return []func(){more}
	}
	return []func(){more, none, func() { v.Set(v.Slice(0, v.Len()-1)) }, func() { v.Set(v.Slice(1, v.Len())) }}
}

// TestEachPart changes each part of a tape in turn.
func TestEachPart(t *testing.T) {
	checkSame(t, "the same", rich(), rich(), true)
	count := 0
	var ways []string
	x := rich()
	leaves(reflect.ValueOf(&x).Elem(), "", func(v reflect.Value, way string) {
		kept := reflect.New(v.Type()).Elem()
		kept.Set(v)
		for _, change := range changes(v) {
			change()
			checkSame(t, way, rich(), x, false)
			checkSame(t, way, x, x, true)
			v.Set(kept)
			count++
		}
		checkSame(t, way+" as it was", rich(), x, true)
		ways = append(ways, way)
	})
	if count < 500 || !slices.Contains(ways, ".Blocks[2].Syms[0].Pulses[1]") || !slices.Contains(ways, ".Blocks[2].Pack") {
		t.Fatalf("only %d changes", count)
	}
}

// TestPartsElsewhere has parts of one name be held against those of another.
func TestPartsElsewhere(t *testing.T) {
	of := func(l ...api.Block) api.Tape { return api.Tape{Blocks: l} }
	var all []api.Tape
	all = append(all, api.Tape{}, api.Tape{Major: 1}, api.Tape{Minor: 1}, of(api.Block{}), of(api.Block{}, api.Block{}))
	kind := reflect.TypeFor[api.Block]()
	for i := range kind.NumField() {
		var b api.Block
		switch v := reflect.ValueOf(&b).Elem().Field(i); v.Kind() {
		case reflect.Int:
			v.SetInt(1)
		default:
			v.Set(reflect.MakeSlice(v.Type(), 1, 1))
		}
		all = append(all, of(b), of(b, api.Block{}), of(api.Block{}, b))
	}
	sym := api.Sym{Pulses: []int{0}}
	all = append(all,
		of(api.Block{Items: make([]api.Item, 2)}), of(api.Block{Items: []api.Item{{Text: []byte{0}}}}), of(api.Block{Items: []api.Item{{N: 1}}}),
		of(api.Block{Pilots: []api.Sym{sym}}), of(api.Block{Syms: []api.Sym{sym}}), of(api.Block{Pilots: []api.Sym{{}, sym}}), of(api.Block{Pilots: []api.Sym{sym, {}}}),
		of(api.Block{Pilots: []api.Sym{{}}, Syms: []api.Sym{{}}}), of(api.Block{Reps: []api.Rep{{Sym: 1}}}), of(api.Block{Reps: []api.Rep{{Times: 1}}}))
	for i, a := range all {
		for j, b := range all {
			checkSame(t, fmt.Sprint(i, j), a, b, i == j)
		}
	}
}

func TestEmptyAndNil(t *testing.T) {
	empty := api.Tape{Blocks: []api.Block{{
		ID: 5, Data: []byte{}, Times: []int{}, Items: []api.Item{}, Pilots: []api.Sym{}, Syms: []api.Sym{}, Reps: []api.Rep{},
	}}}
	checkSame(t, "no lists", empty, api.Tape{Blocks: []api.Block{{ID: 5}}}, true)
	checkSame(t, "no blocks", api.Tape{Blocks: []api.Block{}}, api.Tape{}, true)
	checkSame(t, "no text", api.Tape{Blocks: []api.Block{{Items: []api.Item{{Text: []byte{}}}}}}, api.Tape{Blocks: []api.Block{{Items: []api.Item{{}}}}}, true)
	for _, x := range []struct{ a, b api.Block }{
		{api.Block{Pilots: []api.Sym{{Pulses: []int{}}}}, api.Block{Pilots: []api.Sym{{}}}},
		{api.Block{Syms: []api.Sym{{Pulses: []int{}}}}, api.Block{Syms: []api.Sym{{}}}},
	} {
		checkSame(t, "no pulses", api.Tape{Blocks: []api.Block{x.a}}, api.Tape{Blocks: []api.Block{x.b}}, true)
	}
	checkSame(t, "no block, and an empty one", api.Tape{}, api.Tape{Blocks: []api.Block{{}}}, false)
	// What stands behind a list's end is no part of it.
	data := []byte{1, 2, 3}
	checkSame(t, "behind the end", api.Tape{Blocks: []api.Block{{Data: data[:1]}}}, api.Tape{Blocks: []api.Block{{Data: []byte{1}}}}, true)
	checkSame(t, "behind the end", api.Tape{Blocks: []api.Block{{Data: data[:1]}}}, api.Tape{Blocks: []api.Block{{Data: data[:2]}}}, false)
}
