package spell

import (
	"encoding/binary"
	"reflect"
	"slices"
	"strings"
	"testing"

	"squeal/api"
	"squeal/tzx"
)

// A second writer: it goes by the document's table, told as text.

// table is what the parts of blocks are by their IDs: a number by its name and
// how many bytes it has, Data by = and its length's bytes or by : alone, a list
// by its name, = and its count's bytes, and what each of it has; # is a length of
// what follows, and ' a number that is always the same.
func table(id int) string {
	switch id {
	case 16:
		return "Pause2 Data=2"
	case 17:
		return "Pilot2 Sync12 Sync22 Zero2 One2 Count2 Used1 Pause2 Data=3"
	case 18:
		return "Tone2 Count2"
	case 19:
		return "Times=12"
	case 20:
		return "Zero2 One2 Used1 Pause2 Data=3"
	case 21:
		return "Rate2 Pause2 Used1 Data=3"
	case 24:
		return "#4 Pause2 Rate3 Pack1 Count4 Data:"
	case 25:
		return "#4 Pause2 Reps+4 Pilot1 Sync11 Count4 Zero1 One1 Pilots* Reps* Syms* Data:"
	case 32:
		return "Pause2"
	case 33, 48:
		return "Data=1"
	case 34, 37, 39:
		return ""
	case 35:
		return "Times=02"
	case 36:
		return "Count2"
	case 38:
		return "Times=22"
	case 40:
		return "#2 Items+1 Items=2"
	case 42:
		return "'0"
	case 43:
		return "'1 Used1"
	case 49:
		return "Count1 Data=1"
	case 50:
		return "#2 Items+1 Items=1"
	case 51:
		return "Third+1 Times=01"
	case 52, 90:
		return "Data:"
	case 53:
		return "Text: Data=4"
	}
	return "Data=4"
}

func number(n, v int) string {
	return string(binary.LittleEndian.AppendUint64(nil, uint64(v))[:n])
}

func list[T any](l []T, each func(T) string) string {
	var out strings.Builder
	for _, x := range l {
		out.WriteString(each(x))
	}
	return out.String()
}

func symbolText(l []api.Sym) string {
	return list(l, func(s api.Sym) string {
		return number(1, s.Kind) + list(s.Pulses, func(v int) string { return number(2, v) })
	})
}

// word is what a word of the table stands for; its last sign is how many bytes a
// number has.
func word(b api.Block, w string) string {
	n := int(w[len(w)-1] - '0')
	switch w[:len(w)-1] {
	case "'":
		return number(4, n)
	case "Data=":
		return number(n, len(b.Data)) + string(b.Data)
	case "Data":
		return string(b.Data)
	case "Times=0":
		return list(b.Times, func(v int) string { return number(n, v) })
	case "Times=1", "Times=2":
		return number(int(w[6]-'0'), len(b.Times)) + list(b.Times, func(v int) string { return number(n, v) })
	case "Third+":
		return number(n, len(b.Times)/3)
	case "Items+":
		return number(n, len(b.Items))
	case "Items=":
		return list(b.Items, func(x api.Item) string { return number(n, x.N) + number(1, len(x.Text)) + string(x.Text) })
	case "Text":
		return string(b.Items[0].Text)
	case "Reps+":
		return number(n, len(b.Reps))
	case "Pilots":
		return symbolText(b.Pilots)
	case "Reps":
		return list(b.Reps, func(r api.Rep) string { return number(1, r.Sym) + number(2, r.Times) })
	case "Syms":
		return symbolText(b.Syms)
	}
	return number(n, int(reflect.ValueOf(b).FieldByName(w[:len(w)-1]).Int()))
}

// told is a tape as the second writer has it.
func told(x api.Tape) string {
	out := "ZXTape!\x1a" + number(1, x.Major) + number(1, x.Minor)
	for _, b := range x.Blocks {
		length, rest := 0, ""
		for _, w := range strings.Fields(table(b.ID)) {
			if w[0] == '#' {
				length = int(w[1] - '0')
				continue
			}
			rest += word(b, w)
		}
		out += number(1, b.ID) + number(length, len(rest)) + rest
	}
	return out
}

// Blocks by chance.

func (c *chance) items(least, most int) []api.Item {
	var l []api.Item
	for range c.below(4) {
		l = append(l, api.Item{N: least + c.below(most-least+1), Text: c.bytes(c.below(5))})
	}
	return l
}

func (c *chance) symbols(many, long int) []api.Sym {
	var l []api.Sym
	for range many {
		l = append(l, api.Sym{Kind: c.below(256), Pulses: c.numbers(long, 65536)})
	}
	return l
}

func (c *chance) general() api.Block {
	b := api.Block{ID: 25, Pause: c.below(65536), Pilot: c.below(4), Sync1: 1 + c.below(6), Zero: c.below(4), One: 1 + c.below(6)}
	if c.below(30) == 0 {
		b.Sync1, b.Pilot = 0, 0
	}
	if c.below(30) == 0 {
		b.One, b.Zero = 0, 0
	}
	pilots, syms := (b.Sync1+255)%256+1, (b.One+255)%256+1
	if c.below(4) > 0 {
		b.Pilots = c.symbols(pilots, b.Pilot)
		for range 1 + c.below(4) {
			b.Reps = append(b.Reps, api.Rep{Sym: c.below(pilots), Times: c.below(65536)})
		}
	}
	if c.below(4) > 0 {
		b.Count = 1 + c.below(12)
		b.Syms = c.symbols(syms, b.Zero)
		b.Data = dataOf(bitsOf(syms), uint8(c.below(2)), c.numbers(b.Count, syms)...)
	}
	return b
}

// block is a block that may be; least and most are how far it may lead.
func (c *chance) block(least, most int) api.Block {
	id := c.below(256)
	if c.below(8) > 0 {
		ids := []int{16, 17, 18, 19, 20, 21, 24, 25, 25, 25, 32, 35, 38, 39, 40, 42, 43, 48, 49, 50, 51, 52, 53, 90}
		id = ids[c.below(len(ids))]
	}
	if id == 25 {
		return c.general()
	}
	b := plain(id)
	// Those that stand about others have none behind.
	if id == 33 || id == 34 || id == 36 || id == 37 {
		b.ID = 39
		return b
	}
	for _, name := range strings.Fields(numberNames) {
		setNumber(&b, name, c.below(greatest(id, name)+1))
	}
	way := func() int { return least + c.below(most-least+1) }
	switch id {
	case 19:
		b.Times = c.numbers(c.below(6), 65536)
	case 35:
		b.Times[0] = way()
	case 38:
		for range c.below(5) {
			b.Times = append(b.Times, way())
		}
	case 40:
		b.Items = c.items(least, most)
	case 50:
		b.Items = c.items(0, 255)
	case 51:
		b.Times = c.numbers(3*c.below(4), 256)
	case 52:
		b.Data = c.bytes(8)
	case 53:
		b.Items[0].Text = c.bytes(16)
	case 90:
		b.Data[7], b.Data[8] = byte(c.below(256)), byte(c.below(256))
	}
	if least, most := bytesOf(id); least < most {
		b.Data = c.bytes(c.below(20))
	}
	return b
}

// tape is a tape that may be; now and then blocks stand in loops and groups.
func (c *chance) tape() api.Tape {
	x := api.Tape{Major: c.below(256), Minor: c.below(256)}
	n := c.below(8)
	for i := range n {
		b := c.block(-i, n-1-i)
		switch c.below(12) {
		case 0:
			x.Blocks = append(x.Blocks, api.Block{ID: 36, Count: c.below(65536)}, b, api.Block{ID: 37})
		case 1:
			x.Blocks = append(x.Blocks, api.Block{ID: 33, Data: c.bytes(c.below(9))}, b, api.Block{ID: 34})
		default:
			x.Blocks = append(x.Blocks, b)
		}
	}
	return x
}

// 20.2

func TestWrittenIsReadByChance(t *testing.T) {
	c := chance(2020)
	count := map[api.Errno]int{}
	for range 30000 {
		x := c.tape()
		kept := textOf(x)
		want, e := tzx.Sound(x.Blocks)
		count[e]++
		if e == api.OK {
			checkWrite(t, "by chance", x, told(x))
		} else {
			checkRefused(t, "by chance", x, want, e)
		}
		if textOf(x) != kept {
			t.Fatal("what was handed in is changed")
		}
	}
	if count[api.OK] < 20000 {
		t.Errorf("too few of a kind: %v", count)
	}
}

// changed is b with something of it changed, or not.
func (c *chance) changed(b []byte) []byte {
	switch c.below(5) {
	case 0:
		return b[:c.below(len(b)+1)]
	case 1:
		b[c.below(len(b))] ^= 1 << c.below(8)
	case 2:
		b[c.below(len(b))] = byte(c.below(256))
	case 3:
		return slices.Insert(b, c.below(len(b)+1), c.bytes(1+c.below(3))...)
	case 4:
		at := c.below(len(b))
		return slices.Delete(b, at, at+1)
	}
	return b
}

func TestReadIsWrittenByChance(t *testing.T) {
	c := chance(2021)
	n := 0
	for range 60000 {
		b := c.changed([]byte(told(c.tape())))
		if _, err := tzx.Parse(b); err == nil {
			checkAgain(t, "by chance", b)
			n++
		}
	}
	if n < 10000 {
		t.Errorf("only %d files are read", n)
	}
}

// TestShortFiles has all rows of two bytes behind a head be read and written.
func TestShortFiles(t *testing.T) {
	n := 0
	for pair := range 65536 {
		b := []byte(head + one(pair>>8) + one(pair&255))
		if _, err := tzx.Parse(b); err == nil {
			checkAgain(t, "two bytes", b)
			n++
		}
	}
	// Two blocks 39, and each of those whose list is empty.
	if n != 4 {
		t.Errorf("%d files are read", n)
	}
}

// 20.1: a second judge of what may be

// within is whether numbers are in a span.
func within(least, most int, l ...int) bool {
	return len(l) == 0 || slices.Min(l) >= least && slices.Max(l) <= most
}

func symbolsMay(l []api.Sym, said, long int) bool {
	return len(l) == (said+255)%256+1 && !slices.ContainsFunc(l, func(s api.Sym) bool {
		return !within(0, 255, s.Kind) || len(s.Pulses) != long || !within(0, 65535, s.Pulses...)
	})
}

func generalMay(b api.Block) bool {
	switch {
	case !within(0, 65535, b.Pause), !within(0, 255, b.Pilot, b.Sync1, b.Zero, b.One), !within(0, 1<<32-1, b.Count):
		return false
	case b.Sync2 != 0, b.Tone != 0, b.Used != 0, b.Rate != 0, b.Pack != 0, len(b.Times) != 0, len(b.Items) != 0:
		return false
	case len(b.Reps) == 0 && len(b.Pilots) != 0, len(b.Reps) != 0 && !symbolsMay(b.Pilots, b.Sync1, b.Pilot):
		return false
	case b.Count == 0:
		return len(b.Syms) == 0 && len(b.Data) == 0 && repsMay(b)
	}
	bits := bitsOf(len(b.Syms))
	if !symbolsMay(b.Syms, b.One, b.Zero) || len(b.Data) != (b.Count*bits+7)/8 || !repsMay(b) {
		return false
	}
	all := ""
	for _, x := range b.Data {
		for i := range 8 {
			all += one(int(x >> (7 - i) & 1))
		}
	}
	if bits == 0 {
		return true
	}
	for i := range b.Count {
		v := 0
		for _, sign := range all[i*bits : i*bits+bits] {
			v = 2*v + int(sign)
		}
		if v >= len(b.Syms) {
			return false
		}
	}
	return true
}

func repsMay(b api.Block) bool {
	return !slices.ContainsFunc(b.Reps, func(r api.Rep) bool {
		return !within(0, len(b.Pilots)-1, r.Sym) || !within(0, 65535, r.Times)
	})
}

// mayByWords is whether a block, of not very many items or bytes, may be.
func mayByWords(b api.Block) bool {
	if !within(0, 255, b.ID) {
		return false
	}
	if b.ID == 25 {
		return generalMay(b)
	}
	for _, name := range strings.Fields(numberNames) {
		if !within(0, greatest(b.ID, name), int(reflect.ValueOf(b).FieldByName(name).Int())) {
			return false
		}
	}
	least, most := bytesOf(b.ID)
	if !within(least, most, len(b.Data)) || !timesMay(b.ID, len(b.Times)) || len(b.Pilots)+len(b.Syms)+len(b.Reps) != 0 {
		return false
	}
	lists := map[int][2]int{19: {0, 65535}, 35: {-32768, 32767}, 38: {-32768, 32767}, 51: {0, 255}, 40: {-32768, 32767}, 50: {0, 255}}
	if !within(lists[b.ID][0], lists[b.ID][1], b.Times...) {
		return false
	}
	for _, x := range b.Items {
		if !within(lists[b.ID][0], lists[b.ID][1], x.N) || b.ID == 53 && len(x.Text) != 16 {
			return false
		}
	}
	switch b.ID {
	case 40, 50:
		return true
	case 53:
		return len(b.Items) == 1
	case 90:
		return string(b.Data[:7]) == "XTape!\x1a" && len(b.Items) == 0
	}
	return len(b.Items) == 0
}

// otherwise changes one part of a block.
func (c *chance) otherwise(b *api.Block) {
	var all []func()
	leaves(reflect.ValueOf(b).Elem(), "", func(v reflect.Value, _ string) {
		all = append(all, changes(v)...)
		if v.Kind() == reflect.Int {
			all = append(all, func() { v.SetInt(int64(c.below(300) - 20)) })
		}
	})
	all[c.below(len(all))]()
}

func TestMayByChance(t *testing.T) {
	c := chance(2022)
	count := map[bool]int{}
	for range 60000 {
		b := c.block(-9, 9)
		checkMay(t, "by chance", b, true)
		for range 1 + c.below(2) {
			c.otherwise(&b)
		}
		want := mayByWords(b)
		checkMay(t, "by chance, changed", b, want)
		count[want]++
	}
	if count[true] < 5000 || count[false] < 5000 {
		t.Errorf("too few of a kind: %v", count)
	}
}
