package spell

import (
	"math"
	"reflect"
	"slices"
	"strconv"
	"strings"
	"testing"

	"squeal/api"
)

// numbersOf is the numbers of an ID, each by its name and the greatest one that
// fits. Those that aren't here are 0 alone.
func numbersOf(id int) string {
	switch id {
	case 16, 32:
		return "Pause 65535"
	case 17:
		return "Pilot 65535 Sync1 65535 Sync2 65535 Zero 65535 One 65535 Count 65535 Used 255 Pause 65535"
	case 18:
		return "Tone 65535 Count 65535"
	case 20:
		return "Zero 65535 One 65535 Used 255 Pause 65535"
	case 21:
		return "Rate 65535 Pause 65535 Used 255"
	case 24:
		return "Pause 65535 Rate 16777215 Pack 255 Count 4294967295"
	case 25:
		// Without Reps, and without a Count.
		return "Pause 65535 Pilot 255 Sync1 255 Zero 255 One 255"
	case 36:
		return "Count 65535"
	case 43:
		return "Used 1"
	case 49:
		return "Count 255"
	}
	return ""
}

// numberNames is all numbers of a block.
const numberNames = "Pause Pilot Sync1 Sync2 Zero One Tone Count Used Rate Pack"

// greatest is the greatest number of a name that fits.
func greatest(id int, name string) int {
	l := strings.Fields(numbersOf(id))
	if i := slices.Index(l, name); i >= 0 {
		v, _ := strconv.Atoi(l[i+1])
		return v
	}
	return 0
}

// edges is numbers round those that fit so many bytes, and at the ends of int.
func edges() []int {
	l := []int{math.MinInt, math.MinInt + 1, math.MinInt32, math.MaxInt - 1, math.MaxInt}
	for _, n := range []int{0, 1, 2, 7, 8, 15, 16, 23, 24, 31, 32, 33, 40, 48, 56, 62} {
		for away := -2; away <= 2; away++ {
			l = append(l, 1<<n+away, -(1<<n)+away)
		}
	}
	return l
}

// plain is a block of an ID that may be, with as little as there may be.
func plain(id int) api.Block {
	b := api.Block{ID: id}
	switch id {
	case 35:
		b.Times = []int{0}
	case 52:
		b.Data = []byte("12345678")
	case 53:
		b.Items = []api.Item{{Text: []byte("0123456789abcdef")}}
	case 90:
		b.Data = []byte("XTape!\x1a\x01\x14")
	}
	return b
}

func setNumber(b *api.Block, name string, v int) {
	reflect.ValueOf(b).Elem().FieldByName(name).SetInt(int64(v))
}

func checkMay(t *testing.T, what string, b api.Block, want bool) {
	t.Helper()
	if got := May(b); got != want {
		t.Fatalf("%s: May(%.400v) is %v", what, b, got)
	}
	if want {
		return
	}
	// Whether the others of a tape are sound doesn't matter to it.
	checkRefused(t, what, api.Tape{Blocks: []api.Block{{ID: 37}, b, {ID: 300}}}, 1, api.ErrArg)
}

func TestIDs(t *testing.T) {
	for id := -300; id < 600; id++ {
		checkMay(t, "ID", plain(id), id >= 0 && id < 256)
	}
	for _, id := range edges() {
		checkMay(t, "ID", plain(id), id >= 0 && id < 256)
		if id < 0 || id > 255 {
			checkMay(t, "ID with bytes", api.Block{ID: id, Data: []byte("abc")}, false)
		}
		// Not by its lowest byte.
		for _, low := range []int{16, 19, 32, 52} {
			b := plain(low)
			b.ID = id&^255 | low
			checkMay(t, "ID of another's lowest byte", b, id&^255 == 0)
		}
	}
}

func TestNumbers(t *testing.T) {
	for id := range 256 {
		for _, name := range strings.Fields(numberNames) {
			most := greatest(id, name)
			for _, v := range append(edges(), most-1, most, most+1, most/2) {
				b := plain(id)
				setNumber(&b, name, v)
				if id == 25 && name == "Count" && v != 0 {
					checkMay(t, "a Count without Syms", b, false)
					continue
				}
				checkMay(t, name, b, v >= 0 && v <= most)
			}
		}
	}
}

// TestNumbersTogether has all numbers be as great as they may be, and one of
// them not.
func TestNumbersTogether(t *testing.T) {
	for id := range 256 {
		all := plain(id)
		for _, name := range strings.Fields(numberNames) {
			setNumber(&all, name, greatest(id, name))
		}
		checkMay(t, "all numbers", all, true)
		for _, name := range strings.Fields(numberNames) {
			for _, v := range []int{-1, greatest(id, name) + 1, math.MinInt, math.MaxInt} {
				b := all
				setNumber(&b, name, v)
				checkMay(t, "one of all numbers", b, false)
			}
		}
	}
}

// bytesOf is how many bytes of Data an ID has at least and at most.
func bytesOf(id int) (int, int) {
	switch id {
	case 16:
		return 0, 65535
	case 17, 20, 21:
		return 0, 16777215
	case 33, 48, 49:
		return 0, 255
	case 52:
		return 8, 8
	case 90:
		return 9, 9
	case 18, 19, 25, 32, 34, 35, 36, 37, 38, 39, 40, 42, 43, 50, 51:
		return 0, 0
	}
	return 0, 1048576
}

func TestData(t *testing.T) {
	all := make([]byte, 1<<24+1)
	copy(all, "XTape!\x1a")
	for id := range 256 {
		least, most := bytesOf(id)
		for _, n := range []int{0, 1, 2, 6, 7, 8, 9, 10, 15, 16, 17, 254, 255, 256, 257, 65534, 65535, 65536, 65537, 1<<20 - 10, 1<<20 - 9, 1<<20 - 1, 1 << 20, 1<<20 + 1, 1<<24 - 1, 1 << 24, 1<<24 + 1} {
			b := plain(id)
			b.Data = all[:n]
			checkMay(t, "Data of "+strconv.Itoa(n)+" bytes", b, n >= least && n <= most)
		}
	}
	for i := range 9 {
		for bit := range 8 {
			b := plain(90)
			b.Data[i] ^= 1 << bit
			checkMay(t, "the sign of 90", b, i >= 7)
			b = plain(52)
			b.Data[i%8] ^= 1 << bit
			checkMay(t, "the bytes of 52", b, true)
		}
	}
}

// timesMay is whether an ID may have so many Times.
func timesMay(id, n int) bool {
	switch id {
	case 19:
		return n <= 255
	case 35:
		return n == 1
	case 38:
		return n <= 65535
	case 51:
		return n%3 == 0 && n <= 765
	}
	return n == 0
}

func TestHowManyTimes(t *testing.T) {
	for id := range 256 {
		for _, n := range []int{0, 1, 2, 3, 4, 5, 6, 7, 254, 255, 256, 257, 258, 762, 763, 764, 765, 766, 767, 768, 65534, 65535, 65536, 65537, 65538} {
			b := plain(id)
			b.Times = make([]int, n)
			checkMay(t, strconv.Itoa(n)+" Times", b, timesMay(id, n))
		}
	}
}

func TestEachOfTimes(t *testing.T) {
	for _, x := range []struct{ id, many, least, most int }{
		{19, 1, 0, 65535}, {19, 3, 0, 65535}, {19, 255, 0, 65535},
		{35, 1, -32768, 32767},
		{38, 1, -32768, 32767}, {38, 3, -32768, 32767}, {38, 300, -32768, 32767},
		{51, 3, 0, 255}, {51, 6, 0, 255}, {51, 765, 0, 255},
	} {
		for place := range x.many {
			for _, v := range append(edges(), x.least-1, x.least, x.most, x.most+1) {
				b := api.Block{ID: x.id, Times: make([]int, x.many)}
				b.Times[place] = v
				checkMay(t, "one of Times", b, v >= x.least && v <= x.most)
			}
		}
		for _, v := range []int{x.least, x.most} {
			checkMay(t, "all of Times", api.Block{ID: x.id, Times: slices.Repeat([]int{v}, x.many)}, true)
		}
	}
}

// itemsOf is so many items, each with a text of so many bytes.
func itemsOf(many, long int) []api.Item {
	return slices.Repeat([]api.Item{{Text: make([]byte, long)}}, many)
}

func TestHowManyItems(t *testing.T) {
	for _, long := range []int{0, 1, 15, 16, 17} {
		all := itemsOf(65536, long)
		for id := range 256 {
			for _, many := range []int{0, 1, 2, 3, 254, 255, 256, 257, 65536} {
				b := plain(id)
				b.Items = all[:many]
				want := many == 0
				switch id {
				case 40, 50:
					want = many <= 255
				case 53:
					want = many == 1 && long == 16
				}
				checkMay(t, strconv.Itoa(many)+" items", b, want)
			}
		}
	}
}

func TestEachItem(t *testing.T) {
	for _, x := range []struct{ id, many, least, most int }{
		{40, 1, -32768, 32767}, {40, 3, -32768, 32767}, {40, 255, -32768, 32767},
		{50, 1, 0, 255}, {50, 3, 0, 255}, {50, 255, 0, 255},
		{53, 1, 0, 0},
	} {
		text := 3
		if x.id == 53 {
			text = 16
		}
		for place := range x.many {
			for _, v := range append(edges(), x.least-1, x.least, x.most, x.most+1) {
				b := api.Block{ID: x.id, Items: itemsOf(x.many, text)}
				b.Items[place].N = v
				checkMay(t, "an item's N", b, v >= x.least && v <= x.most)
			}
			for _, n := range []int{0, 1, 2, 15, 16, 17, 254, 255, 256, 257, 65535, 65536} {
				b := api.Block{ID: x.id, Items: itemsOf(x.many, text)}
				b.Items[place].Text = make([]byte, n)
				checkMay(t, "an item's Text", b, x.id == 53 && n == 16 || x.id != 53 && n <= 255)
			}
		}
	}
}

// TestItemsTogether has items be 65,535 bytes, or more, with their count and
// their parts.
func TestItemsTogether(t *testing.T) {
	for _, x := range []struct{ id, n int }{{40, 2}, {50, 1}} {
		for many := 250; many <= 255; many++ {
			for size := 65530; size <= 65540; size++ {
				// What is left for texts goes to the first ones.
				rest := size - 1 - many*(x.n+1)
				if rest > many*255 {
					continue
				}
				b := api.Block{ID: x.id, Items: make([]api.Item, many)}
				for i := range b.Items {
					n := min(rest, 255)
					b.Items[i].Text = make([]byte, n)
					rest -= n
				}
				checkMay(t, strconv.Itoa(size)+" bytes of items", b, size <= 65535)
				if size <= 65535 {
					want := one(x.id) + one(size&255) + one(size>>8) + one(many)
					got, _, e := Write(api.Tape{Major: 1, Minor: 20, Blocks: []api.Block{b}})
					if e != api.OK || len(got) != len(head)+3+size || !strings.HasPrefix(string(got), head+want) {
						t.Fatalf("%d bytes of items are written as %d bytes %.30x, %d", size, len(got), got, e)
					}
				}
			}
		}
	}
	checkMay(t, "full choices", api.Block{ID: 40, Items: itemsOf(255, 255)}, false)
	checkMay(t, "full texts", api.Block{ID: 50, Items: itemsOf(255, 255)}, false)
	checkMay(t, "full choices", api.Block{ID: 40, Items: itemsOf(254, 255)}, true)
	checkMay(t, "full texts", api.Block{ID: 50, Items: itemsOf(254, 255)}, true)
}

// TestSymbolsElsewhere has symbols stand in any other block.
func TestSymbolsElsewhere(t *testing.T) {
	for id := range 256 {
		if id == 25 {
			continue
		}
		for _, set := range []func(*api.Block){
			func(b *api.Block) { b.Pilots = make([]api.Sym, 1) },
			func(b *api.Block) { b.Syms = make([]api.Sym, 1) },
			func(b *api.Block) { b.Reps = make([]api.Rep, 1) },
			func(b *api.Block) { b.Pilots, b.Reps, b.Sync1 = make([]api.Sym, 1), make([]api.Rep, 1), 1 },
			func(b *api.Block) { b.Syms, b.One, b.Count = make([]api.Sym, 1), 1, 1 },
		} {
			b := plain(id)
			set(&b)
			checkMay(t, "symbols", b, false)
		}
	}
}
