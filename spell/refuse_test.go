package spell

import (
	"math"
	"slices"
	"testing"

	"squeal/api"
	"squeal/tzx"
)

// ids are blocks with nothing but an ID.
func ids(l ...int) []api.Block {
	var out []api.Block
	for _, id := range l {
		out = append(out, api.Block{ID: id})
	}
	return out
}

// jumpOf is a block that leads elsewhere.
func jumpOf(n int) api.Block {
	return api.Block{ID: 35, Times: []int{n}}
}

// 20.1: what is refused, in the order of its errors

func TestWrongVersions(t *testing.T) {
	all := [][]api.Block{ids(39), ids(300), ids(37), ids(slices.Repeat([]int{39}, 4097)...), {{ID: 17, Data: make([]byte, 1<<20)}}}
	for _, v := range edges() {
		for _, other := range []int{0, 255} {
			for _, x := range []api.Tape{{Major: v, Minor: other}, {Major: other, Minor: v}} {
				if v >= 0 && v <= 255 {
					checkWrite(t, "version", x, head[:8]+one(x.Major)+one(x.Minor))
					continue
				}
				checkRefused(t, "version", x, -1, api.ErrArg)
				// It is told ahead of all else.
				for _, l := range all {
					x.Blocks = l
					checkRefused(t, "version with blocks", x, -1, api.ErrArg)
				}
			}
		}
	}
	checkRefused(t, "both", api.Tape{Major: -1, Minor: 256}, -1, api.ErrArg)
}

func TestManyBlocks(t *testing.T) {
	for _, n := range []int{4095, 4096, 4097, 4098, 8192, 10000} {
		l := ids(slices.Repeat([]int{39}, n)...)
		if n <= 4096 {
			file := head
			for range n {
				file += "\x27"
			}
			checkWrite(t, "many blocks", api.Tape{Major: 1, Minor: 20, Blocks: l}, file)
			l[n-1].ID = -1
			checkRefused(t, "many blocks, the last one wrong", api.Tape{Blocks: l}, n-1, api.ErrArg)
			l[n-1].ID = 37
			checkRefused(t, "many blocks, the last one wrong", api.Tape{Blocks: l}, n-1, api.ErrLoop)
			continue
		}
		checkRefused(t, "too many blocks", api.Tape{Blocks: l}, -1, api.ErrLong)
		// It is told ahead of what is wrong of them.
		for _, b := range []api.Block{{ID: 256}, {ID: 37}, jumpOf(-1), {ID: 35}, {ID: 16, Pause: -1}} {
			l[0] = b
			checkRefused(t, "too many blocks, one wrong", api.Tape{Blocks: l}, -1, api.ErrLong)
		}
	}
}

func TestTheFirstWrongBlock(t *testing.T) {
	wrong := []api.Block{{ID: -1}, {ID: 256}, {ID: 16, Pause: 65536}, {ID: 35}, {ID: 52}, {ID: 90, Data: make([]byte, 9)}, {ID: 39, Count: 1},
		{ID: 25, Count: 1}, {ID: 17, Data: make([]byte, 1<<24)}, {ID: 0, Data: make([]byte, 1<<20+1)}, {ID: 36, Count: -1}, {ID: 35, Times: []int{40000}}}
	for i, b := range wrong {
		for n := range 5 {
			l := slices.Repeat(ids(39), 5)
			l[n] = b
			checkRefused(t, "a wrong block", api.Tape{Blocks: l}, n, api.ErrArg)
			for later := n + 1; later < 5; later++ {
				l[later] = wrong[(i+later)%len(wrong)]
			}
			checkRefused(t, "wrong blocks", api.Tape{Blocks: l}, n, api.ErrArg)
			// What is wrong beside the others comes behind that, wherever it is.
			for other := range n {
				for _, x := range []api.Block{{ID: 37}, {ID: 36}, {ID: 33}, {ID: 34}, jumpOf(-9), jumpOf(9)} {
					l[other] = x
					checkRefused(t, "a wrong block behind another", api.Tape{Blocks: l}, n, api.ErrArg)
				}
				l[other] = api.Block{ID: 17, Data: make([]byte, 1<<20)}
				checkRefused(t, "a wrong block behind a long one", api.Tape{Blocks: l}, n, api.ErrArg)
				l[other] = api.Block{ID: 39}
			}
		}
	}
}

func TestBlocksThatAreUnsound(t *testing.T) {
	long := api.Block{ID: 17, Data: make([]byte, 1<<20)}
	for _, x := range []struct {
		l    []api.Block
		want int
		e    api.Errno
	}{
		{ids(37), 0, api.ErrLoop},
		{ids(36), 0, api.ErrLoop},
		{ids(34), 0, api.ErrLoop},
		{ids(33), 0, api.ErrLoop},
		{ids(39, 36, 37, 37), 3, api.ErrLoop},
		{ids(36, 36, 37), 1, api.ErrLoop},
		{ids(33, 34, 33), 2, api.ErrLoop},
		{[]api.Block{jumpOf(1)}, 0, api.ErrRange},
		{[]api.Block{jumpOf(-1)}, 0, api.ErrRange},
		{[]api.Block{jumpOf(32767)}, 0, api.ErrRange},
		{[]api.Block{jumpOf(-32768)}, 0, api.ErrRange},
		{[]api.Block{{ID: 39}, jumpOf(-2)}, 1, api.ErrRange},
		{[]api.Block{{ID: 39}, {ID: 38, Times: []int{-1, 0, 2}}, {ID: 39}}, 1, api.ErrRange},
		{[]api.Block{{ID: 39}, {ID: 39}, {ID: 40, Items: []api.Item{{N: -2}, {N: 1}}}}, 2, api.ErrRange},
		{[]api.Block{jumpOf(5), {ID: 37}}, 0, api.ErrRange},
		{[]api.Block{{ID: 37}, jumpOf(5)}, 0, api.ErrLoop},
	} {
		checkRefused(t, "unsound", api.Tape{Blocks: x.l}, x.want, x.e)
		// It is told ahead of too many bytes; but a way may lead to the long one.
		for _, l := range [][]api.Block{append([]api.Block{long}, x.l...), append(slices.Clone(x.l), long)} {
			if n, e := tzx.Sound(l); e != api.OK {
				checkRefused(t, "unsound and long", api.Tape{Blocks: l}, n, e)
			} else {
				checkRefused(t, "long alone", api.Tape{Blocks: l}, -1, api.ErrLong)
			}
		}
	}
}

// TestUnsoundByChance holds what is refused against layer 19.
func TestUnsoundByChance(t *testing.T) {
	c := chance(201)
	count := map[api.Errno]int{}
	for range 20000 {
		n := 1 + c.below(6)
		var l []api.Block
		for range n {
			switch id := 33 + c.below(9); id {
			case 35:
				l = append(l, jumpOf(c.below(9)-4))
			case 38:
				l = append(l, api.Block{ID: 38, Times: []int{c.below(5) - 2, c.below(5) - 2}[:c.below(3)]})
			case 40:
				l = append(l, api.Block{ID: 40, Items: []api.Item{{N: c.below(5) - 2}}})
			default:
				l = append(l, api.Block{ID: id})
			}
		}
		want, e := tzx.Sound(l)
		count[e]++
		x := api.Tape{Major: 3, Minor: 4, Blocks: l}
		if e != api.OK {
			checkRefused(t, "by chance", x, want, e)
			continue
		}
		b, n, e := Write(x)
		if n != 0 || e != api.OK {
			t.Fatalf("%v is refused: %d, %d", x, n, e)
		}
		checkRead(t, "by chance", x, b)
	}
	for _, e := range []api.Errno{api.OK, api.ErrLoop, api.ErrRange} {
		if count[e] < 500 {
			t.Errorf("too few of a kind: %v", count)
		}
	}
}

// TestLongFiles has files of 1,048,576 bytes, or more.
func TestLongFiles(t *testing.T) {
	const most = 1048576
	for _, x := range []struct {
		b     api.Block
		parts int // how many bytes stand ahead of its Data
	}{
		{api.Block{ID: 17}, 19}, {api.Block{ID: 20}, 11}, {api.Block{ID: 21}, 9}, {api.Block{ID: 24}, 15}, {api.Block{ID: 0}, 5}, {api.Block{ID: 255}, 5},
		{api.Block{ID: 53, Items: itemsOf(1, 16)}, 21},
	} {
		for more := -2; more <= 3; more++ {
			b := x.b
			b.Data = make([]byte, most-len(head)-x.parts+more)
			tape := api.Tape{Blocks: []api.Block{b}}
			if more > 0 {
				checkRefused(t, "too long", tape, -1, api.ErrLong)
				continue
			}
			got, n, e := Write(tape)
			if n != 0 || e != api.OK || len(got) != most+more {
				t.Fatalf("a file of %d bytes is %d, %d, %d", most+more, len(got), n, e)
			}
			checkRead(t, "long", tape, got)
			// Another block of a byte, and of three.
			tape.Blocks = append(tape.Blocks, api.Block{ID: 39})
			if _, n, e := Write(tape); more == 0 && (n != -1 || e != api.ErrLong) || more < 0 && (n != 0 || e != api.OK) {
				t.Fatalf("a file of %d bytes: %d, %d", most+more+1, n, e)
			}
			tape.Blocks[1] = api.Block{ID: 32}
			checkRefused(t, "a pause more", tape, -1, api.ErrLong)
		}
		b := x.b
		b.Data = make([]byte, most)
		checkRefused(t, "far too long", api.Tape{Blocks: []api.Block{b, b, b}}, -1, api.ErrLong)
	}
	for _, id := range []int{17, 20, 21} {
		b := api.Block{ID: id, Data: make([]byte, 1<<24-1)}
		checkRefused(t, "the longest one", api.Tape{Blocks: []api.Block{b}}, -1, api.ErrLong)
	}
}

// TestLongTogether has many blocks that are too long together.
func TestLongTogether(t *testing.T) {
	const size = 5 + 251
	const most = (1048576 - len(head)) / size
	data := make([]byte, 251)
	blocks := slices.Repeat([]api.Block{{ID: 7, Data: data}}, most+1)
	b, n, e := Write(api.Tape{Blocks: blocks[:most]})
	if n != 0 || e != api.OK || len(b) != len(head)+most*size {
		t.Fatalf("many blocks are %d bytes, %d, %d", len(b), n, e)
	}
	checkRefused(t, "one more", api.Tape{Blocks: blocks}, -1, api.ErrLong)
	// Blocks that share far more bytes than there are.
	for _, id := range []int{17, 20, 21, 24, 0} {
		shared := slices.Repeat([]api.Block{{ID: id, Data: make([]byte, 1<<20)}}, 4096)
		checkRefused(t, "4096 long ones", api.Tape{Blocks: shared}, -1, api.ErrLong)
		shared[4095].Pause = -1
		checkRefused(t, "4096 long ones, the last one wrong", api.Tape{Blocks: shared}, 4095, api.ErrArg)
	}
	full := slices.Repeat([]api.Block{{ID: 38, Times: make([]int, 65535)}}, 8)
	checkRefused(t, "eight long calls", api.Tape{Blocks: full}, -1, api.ErrLong)
	if b, n, e := Write(api.Tape{Blocks: full[:7]}); n != 0 || e != api.OK || len(b) != len(head)+7*131073 {
		t.Fatalf("seven long calls are %d bytes, %d, %d", len(b), n, e)
	}
}

// TestAnyTape has blocks of any numbers and lists: none is written that isn't
// read as it was.
func TestAnyTape(t *testing.T) {
	some := []int{math.MinInt, -1, 0, 0, 0, 1, 2, 255, 256, 65535, 65536, math.MaxInt}
	c := chance(203)
	pick := func() int { return some[c.below(len(some))] }
	for range 200000 {
		b := api.Block{ID: c.below(100) - 2}
		for range c.below(3) {
			switch c.below(17) {
			case 0:
				b.Pause = pick()
			case 1:
				b.Pilot = pick()
			case 2:
				b.Sync1 = pick()
			case 3:
				b.Sync2 = pick()
			case 4:
				b.Zero = pick()
			case 5:
				b.One = pick()
			case 6:
				b.Tone = pick()
			case 7:
				b.Count = pick()
			case 8:
				b.Used = pick()
			case 9:
				b.Rate = pick()
			case 10:
				b.Pack = pick()
			case 11:
				b.Data = c.bytes(c.below(12))
			case 12:
				b.Times = []int{pick(), pick(), pick()}[:c.below(4)]
			case 13:
				b.Items = []api.Item{{N: pick(), Text: make([]byte, 16)}}
			case 14:
				b.Pilots, b.Sync1 = symsOf(1+c.below(2), c.below(2)), 1
			case 15:
				b.Syms, b.One = symsOf(1+c.below(2), c.below(2)), 1
			case 16:
				b.Reps = []api.Rep{{Sym: c.below(3) - 1, Times: pick()}}
			}
		}
		x := api.Tape{Blocks: []api.Block{b}}
		out, n, e := Write(x)
		if (e == api.ErrArg) == May(b) {
			t.Fatalf("%v: May is %v, but Write %d", b, May(b), e)
		}
		switch e {
		case api.OK:
			checkRead(t, "any block", x, out)
		case api.ErrArg, api.ErrLoop, api.ErrRange:
			if n != 0 || len(out) != 0 {
				t.Fatalf("%v: Write is %d bytes, %d, %d", b, len(out), n, e)
			}
		default:
			t.Fatalf("%v: Write is %d bytes, %d, %d", b, len(out), n, e)
		}
	}
}
