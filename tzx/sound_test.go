package tzx

import (
	"math"
	"reflect"
	"slices"
	"testing"

	"squeal/api"
)

// ids are blocks with nothing but an ID.
func ids(l ...int) []api.Block {
	var out []api.Block
	for _, id := range l {
		out = append(out, api.Block{ID: id})
	}
	return out
}

func checkSound(t *testing.T, l []api.Block, want int, wantE api.Errno) {
	t.Helper()
	if i, e := Sound(l); i != want || e != wantE {
		t.Fatalf("Sound(%.500v) is %d, %d, not %d, %d", l, i, e, want, wantE)
	}
}

// 19.2: Sound

func TestSoundOfLoops(t *testing.T) {
	for _, x := range []struct {
		l    []int
		at   int
		isOK bool
	}{
		{l: nil, isOK: true},
		{l: []int{16, 32, 39, 255}, isOK: true},
		{l: []int{36, 37}, isOK: true},
		{l: []int{36, 18, 37, 36, 37}, isOK: true},
		{l: []int{33, 34}, isOK: true},
		{l: []int{33, 18, 34, 33, 34, 33, 34}, isOK: true},
		{l: []int{33, 36, 34, 37}, isOK: true},
		{l: []int{36, 33, 37, 34, 36, 37}, isOK: true},
		{l: []int{33, 36, 37, 34}, isOK: true},
		{l: []int{37}, at: 0},
		{l: []int{36}, at: 0},
		{l: []int{34}, at: 0},
		{l: []int{33}, at: 0},
		{l: []int{37, 36}, at: 0},
		{l: []int{34, 33}, at: 0},
		{l: []int{33, 37}, at: 0},
		{l: []int{36, 34}, at: 0},
		{l: []int{36, 37, 37}, at: 2},
		{l: []int{33, 34, 34}, at: 2},
		{l: []int{36, 37, 36}, at: 2},
		{l: []int{33, 34, 33}, at: 2},
		{l: []int{36, 36, 37}, at: 1},
		{l: []int{36, 36, 37, 37}, at: 1},
		{l: []int{33, 33, 34, 34}, at: 1},
		{l: []int{33, 33, 34}, at: 1},
		// Behind the first of both no end comes any more.
		{l: []int{36, 36}, at: 0},
		{l: []int{33, 33}, at: 0},
		{l: []int{36, 37, 18, 36, 36}, at: 3},
		{l: []int{36, 33, 34}, at: 0},
		{l: []int{36, 34, 37}, at: 1},
		{l: []int{33, 36, 37}, at: 0},
		{l: []int{18, 36, 33, 37}, at: 2},
		{l: []int{18, 33, 36, 34}, at: 2},
		{l: []int{18, 19, 20, 37}, at: 3},
	} {
		want := api.ErrLoop
		if x.isOK {
			want = api.OK
		}
		checkSound(t, ids(x.l...), x.at, want)
	}
}

func TestSoundOfWays(t *testing.T) {
	for many := 1; many < 7; many++ {
		for place := range many {
			for n := -8; n < 9; n++ {
				l := ids(slices.Repeat([]int{39}, many)...)
				want, wantE := place, api.ErrRange
				if place+n >= 0 && place+n < many {
					want, wantE = 0, api.OK
				}
				l[place] = api.Block{ID: 35, Times: []int{n}}
				checkSound(t, l, want, wantE)
				l[place] = api.Block{ID: 38, Times: []int{n}}
				checkSound(t, l, want, wantE)
				l[place] = api.Block{ID: 40, Items: []api.Item{{N: n}}}
				checkSound(t, l, want, wantE)
				// Any of several.
				for at := range 3 {
					times, items := make([]int, 3), make([]api.Item, 3)
					times[at], items[at].N = n, n
					l[place] = api.Block{ID: 35, Times: times}
					checkSound(t, l, want, wantE)
					l[place] = api.Block{ID: 38, Times: times}
					checkSound(t, l, want, wantE)
					l[place] = api.Block{ID: 40, Items: items}
					checkSound(t, l, want, wantE)
				}
			}
		}
	}
}

// TestSoundOfAnyBlocks has blocks that no file tells.
func TestSoundOfAnyBlocks(t *testing.T) {
	far := []int{math.MinInt, math.MinInt + 1, -1 << 32, -1 << 16, 1 << 16, 1 << 32, math.MaxInt - 1, math.MaxInt}
	for _, n := range far {
		for place := range 3 {
			l := ids(39, 39, 39)
			l[place] = api.Block{ID: 35, Times: []int{n}}
			checkSound(t, l, place, api.ErrRange)
			l[place] = api.Block{ID: 38, Times: []int{0, n}}
			checkSound(t, l, place, api.ErrRange)
			l[place] = api.Block{ID: 40, Items: []api.Item{{}, {N: n}}}
			checkSound(t, l, place, api.ErrRange)
		}
		// Other numbers lead nowhere.
		checkSound(t, []api.Block{{ID: 19, Times: []int{n}}, {ID: 51, Times: []int{n, n}}, {ID: 50, Items: []api.Item{{N: n}}}, {ID: 53, Items: []api.Item{{N: n}}},
			{ID: 39, Times: []int{n}}, {ID: 35, Items: []api.Item{{N: n}}}, {ID: 38, Items: []api.Item{{N: n}}}, {ID: 40, Times: []int{n}},
			{ID: 35, Count: n, Pause: n}}, 0, api.OK)
		checkSound(t, ids(n, n, 36, n, 37, n), 0, api.OK)
	}
	// Of what stands in blocks otherwise nothing is asked, nor how many there are.
	checkSound(t, ids(35, 38, 40), 0, api.OK)
	checkSound(t, []api.Block{{ID: 36, Count: -5, Times: []int{99}}, {ID: 37, Data: []byte{1}}, {ID: 43, Used: 7}, {ID: 90}, {ID: 25, Count: 9, Reps: []api.Rep{{Sym: 5}}}}, 0, api.OK)
	checkSound(t, ids(slices.Repeat([]int{33, 36, 34, 37}, 5000)...), 0, api.OK)
	checkSound(t, append(ids(slices.Repeat([]int{36, 37}, 5000)...), ids(37)...), 10000, api.ErrLoop)
	for id := range 256 {
		if id < 33 || id > 37 || id == 35 {
			checkSound(t, ids(id, id), 0, api.OK)
			checkSound(t, ids(36, id, 37), 0, api.OK)
		}
	}
}

// wrong is what is wrong of block i beside the others, if nothing is of those
// ahead, as the document's words have it.
func wrong(l []api.Block, i int) api.Errno {
	within := func(begin, end int) bool {
		n := 0
		for _, b := range l[:i] {
			if b.ID == begin {
				n++
			} else if b.ID == end {
				n--
			}
		}
		return n > 0
	}
	comes := func(id int) bool {
		return slices.ContainsFunc(l[i+1:], func(b api.Block) bool { return b.ID == id })
	}
	var ways []int
	switch b := l[i]; b.ID {
	case 36:
		if within(36, 37) || !comes(37) {
			return api.ErrLoop
		}
	case 37:
		if !within(36, 37) {
			return api.ErrLoop
		}
	case 33:
		if within(33, 34) || !comes(34) {
			return api.ErrLoop
		}
	case 34:
		if !within(33, 34) {
			return api.ErrLoop
		}
	case 35, 38:
		ways = b.Times
	case 40:
		for _, item := range b.Items {
			ways = append(ways, item.N)
		}
	}
	for _, n := range ways {
		if i+n < 0 || i+n >= len(l) {
			return api.ErrRange
		}
	}
	return api.OK
}

func soundByWords(l []api.Block) (int, api.Errno) {
	for i := range l {
		if e := wrong(l, i); e != api.OK {
			return i, e
		}
	}
	return 0, api.OK
}

func TestSoundOfAllShortRows(t *testing.T) {
	kinds := []api.Block{{ID: 18}, {ID: 33}, {ID: 34}, {ID: 36}, {ID: 37}, {ID: 35, Times: []int{1}}, {ID: 38, Times: []int{-2}}}
	rows := 1
	for n := range 7 {
		for x := range rows {
			l := make([]api.Block, n)
			for i := range l {
				l[i] = kinds[x%len(kinds)]
				x /= len(kinds)
			}
			want, wantE := soundByWords(l)
			checkSound(t, l, want, wantE)
		}
		rows *= len(kinds)
	}
}

// someWays are blocks that lead elsewhere, or don't, by chance.
func someWays(c *chance) []api.Block {
	l := make([]api.Block, c.below(40))
	next := func(i int) int {
		// Most of them lead to a block.
		if c.below(60) == 0 {
			return c.below(100) - 50
		}
		return c.below(len(l)) - i
	}
	loop, group := 36, 33
	for i := range l {
		switch c.below(7) {
		case 0:
			l[i] = api.Block{ID: loop}
			loop = 36 + 37 - loop
		case 1:
			l[i] = api.Block{ID: group}
			group = 33 + 34 - group
		case 2:
			l[i] = api.Block{ID: 35, Times: []int{next(i)}}
		case 3:
			l[i] = api.Block{ID: 38, Times: []int{next(i), next(i)}}
		case 4:
			l[i] = api.Block{ID: 40, Items: []api.Item{{N: next(i)}, {N: next(i)}}}
		default:
			l[i] = api.Block{ID: c.below(33), Times: []int{c.below(100)}}
		}
	}
	for range c.below(3) {
		if len(l) > 0 && c.below(2) == 0 {
			l[c.below(len(l))] = api.Block{ID: 33 + c.below(5)}
		}
	}
	return l
}

func TestSoundByChance(t *testing.T) {
	c := chance(1936)
	count := map[api.Errno]int{}
	for range 40000 {
		l := someWays(&c)
		kept := slices.Clone(l)
		want, wantE := soundByWords(l)
		checkSound(t, l, want, wantE)
		count[wantE]++
		if !reflect.DeepEqual(l, kept) {
			t.Fatal("what was handed in is changed")
		}
	}
	if count[api.OK] < 2000 || count[api.ErrLoop] < 2000 || count[api.ErrRange] < 2000 {
		t.Errorf("too few of a kind: %v", count)
	}
}

// 19.1: what is wrong of blocks, at their first bytes

func TestParseOfWrongBlocks(t *testing.T) {
	for _, x := range []struct {
		b  string
		e  api.Errno
		at int
	}{
		{"\x25", api.ErrLoop, 0},
		{"\x24\x02\x00", api.ErrLoop, 0},
		{"\x22", api.ErrLoop, 0},
		{"\x21\x02ab", api.ErrLoop, 0},
		{"\x30\x02ab\x25", api.ErrLoop, 4},
		{"\x24\x02\x00\x24\x02\x00\x25", api.ErrLoop, 3},
		{"\x24\x02\x00\x24\x02\x00", api.ErrLoop, 0},
		{"\x24\x02\x00\x25\x25", api.ErrLoop, 4},
		{"\x24\x02\x00\x25\x24\x02\x00", api.ErrLoop, 4},
		{"\x21\x01x\x21\x01x\x22", api.ErrLoop, 3},
		{"\x21\x01x\x22\x22", api.ErrLoop, 4},
		{"\x21\x01x\x22\x12\x00\x00\x00\x00\x21\x00", api.ErrLoop, 9},
		{"\x23\x01\x00", api.ErrRange, 0},
		{"\x23\xf0\xff", api.ErrRange, 0},
		{"\x23\xff\x7f", api.ErrRange, 0},
		{"\x23\x00\x80", api.ErrRange, 0},
		{"\x27\x23\x01\x00", api.ErrRange, 1},
		{"\x27\x23\xf0\xff\x27", api.ErrRange, 1},
		{"\x30\x01x\x23\x02\x00\x27", api.ErrRange, 3},
		{"\x30\x01x\x26\x02\x00\x00\x00\x02\x00\x27", api.ErrRange, 3},
		{"\x30\x01x\x26\x01\x00\xf0\xff\x27", api.ErrRange, 3},
		{"\x30\x01x\x28\x05\x00\x01\x02\x00\x01a\x27", api.ErrRange, 3},
		{"\x30\x01x\x28\x08\x00\x02\x00\x00\x00\xf0\xff\x01a\x27", api.ErrRange, 3},
	} {
		checkWrong(t, "wrong blocks", x.b, x.e, x.at)
		checkWrong(t, "wrong blocks behind others", "\x28\x01\x00\x00\x20\x00\x00"+x.b, x.e, x.at+7)
	}
}
