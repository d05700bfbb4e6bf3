package keys

import (
	"slices"
	"strings"
	"testing"

	"squeal/api"
)

// written is the chapter's row of half rows.
const written = "caps z x c v; a s d f g; q w e r t; 1 2 3 4 5; 0 9 8 7 6; p o i u y; enter l k j h; space sym m n b"

// key is one of the keyboard.
type key struct {
	name     string
	row, bit int
}

// all are the keys as they are written, row by row.
func all() []key {
	var l []key
	for row, half := range strings.Split(written, "; ") {
		for bit, name := range strings.Split(half, " ") {
			l = append(l, key{name, row, bit})
		}
	}
	return l
}

// strange are texts that are no key's name.
func strange() []string {
	l := []string{
		"", " ", "  ", "-", "+", "/", ";", ",", ".", "\n", "\x00", "\xff", "\t", "é", "ａ", "１", "10", "11", "00", "-1", "01",
		"shift", "symbol", "sym shift", "caps shift", "cap", "cs", "ss", "ctrl", "alt", "tab", "return", "delete", "break", "up",
		"spac", "pace", "ente", "nter", "sy", "ym", "ap", "aa", "az", "zx", "a,b", "a;", "0 9 8 7 6", written, strings.Repeat("a", 100000),
	}
	for _, x := range all() {
		l = append(l, x.name+" ", " "+x.name, x.name+"\x00", x.name+x.name, x.name+"\n")
		if upper := strings.ToUpper(x.name); upper != x.name {
			l = append(l, upper)
		}
		if len(x.name) > 1 {
			l = append(l, x.name[:1]+" ", strings.ToUpper(x.name[:1])+x.name[1:], x.name[:len(x.name)-1], x.name[1:])
		}
	}
	return l
}

// with is a keyboard with such keys down.
func with(t *testing.T, names ...string) *Keys {
	t.Helper()
	k := new(Keys)
	for _, name := range names {
		if err := k.Press(name); err != api.OK {
			t.Fatalf("Press(%q) is %d", name, err)
		}
	}
	return k
}

// rowDown is what is pressed of one half row: the keys whose bits are in bits.
func rowDown(row, bits int) []string {
	var l []string
	for _, x := range all() {
		if x.row == row && bits>>x.bit&1 == 1 {
			l = append(l, x.name)
		}
	}
	return l
}

// port is what is to be read of high, reckoned key by key: from 31 each bit is
// taken off once.
func port(high int, down []key) int {
	var low [5]bool
	for _, x := range down {
		if high>>x.row%2 == 0 {
			low[x.bit] = true
		}
	}
	n := 31
	for bit, weight := range []int{1, 2, 4, 8, 16} {
		if low[bit] {
			n -= weight
		}
	}
	return n
}

// among are the keys of such names, row by row, each once, and their names.
func among(names []string) ([]key, []string) {
	var keys []key
	var l []string
	for _, x := range all() {
		if slices.Contains(names, x.name) {
			keys, l = append(keys, x), append(l, x.name)
		}
	}
	return keys, l
}

// check holds a keyboard against the keys that are to be down on it.
func check(t *testing.T, k *Keys, down []string) {
	t.Helper()
	keys, names := among(down)
	if got := k.Down(); !slices.Equal(got, names) {
		t.Fatalf("down are %q, not %q", got, names)
	}
	for high := range 256 {
		if got, want := k.Read(uint8(high)), port(high, keys); int(got) != want {
			t.Fatalf("with %q down Read(%d) is %d, not %d", names, high, got, want)
		}
	}
}

// 10.1

func TestNames(t *testing.T) {
	want := []string{
		"caps", "z", "x", "c", "v", "a", "s", "d", "f", "g", "q", "w", "e", "r", "t", "1", "2", "3", "4", "5",
		"0", "9", "8", "7", "6", "p", "o", "i", "u", "y", "enter", "l", "k", "j", "h", "space", "sym", "m", "n", "b",
	}
	if got := Names(); !slices.Equal(got, want) || len(got) != 40 {
		t.Errorf("Names() is %q", got)
	}
}

func TestNamesAreNewMemory(t *testing.T) {
	want, got := Names(), Names()
	for i := range got {
		got[i] = "none"
	}
	_ = append(got[:0], "more")
	if again := Names(); !slices.Equal(again, want) || again[0] != "caps" {
		t.Errorf("Names() is %q behind a change of its answer", again)
	}
	if row, bit, ok := Find("caps"); row != 0 || bit != 0 || !ok {
		t.Errorf("Find is %d, %d, %v behind a change of an answer", row, bit, ok)
	}
	check(t, with(t, "caps", "b"), []string{"caps", "b"})
}

func TestFindWrittenOut(t *testing.T) {
	for _, x := range []key{
		{"caps", 0, 0}, {"z", 0, 1}, {"v", 0, 4}, {"a", 1, 0}, {"g", 1, 4}, {"q", 2, 0}, {"t", 2, 4}, {"1", 3, 0}, {"5", 3, 4},
		{"0", 4, 0}, {"9", 4, 1}, {"6", 4, 4}, {"p", 5, 0}, {"y", 5, 4}, {"enter", 6, 0}, {"l", 6, 1}, {"h", 6, 4},
		{"space", 7, 0}, {"sym", 7, 1}, {"m", 7, 2}, {"n", 7, 3}, {"b", 7, 4},
	} {
		if row, bit, ok := Find(x.name); row != x.row || bit != x.bit || !ok {
			t.Errorf("Find(%q) is %d, %d, %v", x.name, row, bit, ok)
		}
	}
}

func TestFindAll(t *testing.T) {
	for _, x := range all() {
		if row, bit, ok := Find(x.name); row != x.row || bit != x.bit || !ok {
			t.Errorf("Find(%q) is %d, %d, %v", x.name, row, bit, ok)
		}
	}
}

func TestFindNone(t *testing.T) {
	for _, name := range strange() {
		if row, bit, ok := Find(name); row != 0 || bit != 0 || ok {
			t.Errorf("Find(%q) is %d, %d, %v", name, row, bit, ok)
		}
	}
}

// TestFindSigns goes through all texts of one sign: 36 of them are keys.
func TestFindSigns(t *testing.T) {
	found := 0
	for r := range 0x300 {
		name := string(rune(r))
		_, _, ok := Find(name)
		if want := '0' <= r && r <= '9' || 'a' <= r && r <= 'z'; ok != want {
			t.Errorf("Find(%q) is %v", name, ok)
		}
		if ok {
			found++
		}
	}
	if found != 36 {
		t.Errorf("%d signs are keys", found)
	}
}

func TestPressAndRelease(t *testing.T) {
	for _, x := range all() {
		k := new(Keys)
		for range 2 {
			if err := k.Press(x.name); err != api.OK {
				t.Fatalf("Press(%q) is %d", x.name, err)
			}
			check(t, k, []string{x.name})
		}
		for range 2 {
			if err := k.Release(x.name); err != api.OK {
				t.Fatalf("Release(%q) is %d", x.name, err)
			}
			check(t, k, nil)
		}
		if err := k.Press(x.name); err != api.OK {
			t.Fatalf("Press(%q) is %d once more", x.name, err)
		}
		check(t, k, []string{x.name})
	}
}

// TestReleaseAmongAll takes one key off, while all others stay down.
func TestReleaseAmongAll(t *testing.T) {
	for _, x := range all() {
		k := with(t, Names()...)
		if err := k.Release(x.name); err != api.OK {
			t.Fatalf("Release(%q) is %d", x.name, err)
		}
		rest := slices.DeleteFunc(Names(), func(name string) bool { return name == x.name })
		check(t, k, rest)
	}
}

func TestNoSuchKey(t *testing.T) {
	some := []string{"caps", "d", "0", "6", "enter", "b"}
	for _, down := range [][]string{nil, some, Names()} {
		k := with(t, down...)
		for _, name := range strange() {
			if err := k.Press(name); err != api.ErrNone {
				t.Errorf("Press(%q) is %d", name, err)
			}
			if err := k.Release(name); err != api.ErrNone {
				t.Errorf("Release(%q) is %d", name, err)
			}
		}
		check(t, k, down)
	}
}

func TestNilKeyboard(t *testing.T) {
	var k *Keys
	for _, name := range append(Names(), strange()...) {
		if err := k.Press(name); err != api.ErrArg {
			t.Errorf("Press(%q) of a nil keyboard is %d", name, err)
		}
		if err := k.Release(name); err != api.ErrArg {
			t.Errorf("Release(%q) of a nil keyboard is %d", name, err)
		}
	}
	check(t, k, nil)
}

// 10.2

func TestReadWrittenOut(t *testing.T) {
	for _, x := range []struct {
		down string
		high uint8
		want uint8
	}{
		{"", 0, 31}, {"", 254, 31}, {"", 255, 31},
		{"space", 127, 30}, {"space", 254, 31}, {"space", 0, 30}, {"space", 255, 31},
		{"caps", 254, 30}, {"caps", 255, 31}, {"caps", 127, 31}, {"v", 254, 15}, {"g", 253, 15}, {"e", 251, 27}, {"2", 247, 29},
		{"0", 239, 30}, {"6", 239, 15}, {"7", 239, 23}, {"o", 223, 29}, {"enter", 191, 30}, {"sym", 127, 29}, {"b", 127, 15},
		{"caps space", 126, 30}, {"caps sym", 126, 28}, {"caps sym", 254, 30}, {"caps sym", 127, 29},
		{"q w e r t", 251, 0}, {"q w e r t", 4, 31}, {"z s e 4 6", 0, 1}, {"z s e 4 6", 224, 1}, {"z s e 4 6", 231, 7},
	} {
		k := with(t, strings.Fields(x.down)...)
		if got := k.Read(x.high); got != x.want {
			t.Errorf("with %q down Read(%d) is %d, not %d", x.down, x.high, got, x.want)
		}
	}
}

func TestZeroKeyboard(t *testing.T) {
	check(t, new(Keys), nil)
	var k Keys
	check(t, &k, nil)
}

func TestReadOfAllDown(t *testing.T) {
	k := with(t, Names()...)
	for high := range 255 {
		if got := k.Read(uint8(high)); got != 0 {
			t.Errorf("Read(%d) is %d with all keys down", high, got)
		}
	}
	if got := k.Read(255); got != 31 {
		t.Errorf("Read(255) is %d with all keys down", got)
	}
}

func TestPairs(t *testing.T) {
	for _, x := range all() {
		for _, y := range all() {
			check(t, with(t, x.name, y.name), []string{x.name, y.name})
		}
	}
}

func TestRowsWhole(t *testing.T) {
	for row := range 8 {
		for bits := range 32 {
			down := rowDown(row, bits)
			check(t, with(t, down...), down)
		}
	}
}

// TestDownInOrder presses the keys from the last one on.
func TestDownInOrder(t *testing.T) {
	names := Names()
	slices.Reverse(names)
	if got := with(t, names...).Down(); !slices.Equal(got, Names()) {
		t.Errorf("down are %q", got)
	}
}

// TestLongPlay presses and releases keys by a short rule that has no order of
// rows, and holds the keyboard against a list at each step.
func TestLongPlay(t *testing.T) {
	k, keys, n := new(Keys), all(), 1
	var down []string
	for range 1500 {
		n = (n*1103 + 12345) % 65537
		name := keys[n%40].name
		if n/40%3 > 0 {
			if err := k.Press(name); err != api.OK {
				t.Fatalf("Press(%q) is %d", name, err)
			}
			down = append(down, name)
		} else {
			if err := k.Release(name); err != api.OK {
				t.Fatalf("Release(%q) is %d", name, err)
			}
			down = slices.DeleteFunc(down, func(other string) bool { return other == name })
		}
		check(t, k, down)
	}
}

func TestReadAndDownChangeNothing(t *testing.T) {
	k := with(t, "q", "sym", "5")
	before := *k
	for high := range 256 {
		k.Read(uint8(high))
		k.Down()
	}
	if *k != before {
		t.Error("a keyboard that is read is another one")
	}
}

func TestDownIsNewMemory(t *testing.T) {
	k := with(t, "q", "sym", "5")
	got := k.Down()
	for i := range got {
		got[i] = "none"
	}
	_ = append(got[:0], "more")
	check(t, k, []string{"q", "sym", "5"})
	if !slices.Equal(Names(), with(t, Names()...).Down()) {
		t.Error("Names() is another one behind a change of what Down answered")
	}
}

func TestKeyboardsShareNothing(t *testing.T) {
	k, other := with(t, "a", "0"), new(Keys)
	check(t, other, nil)
	copied := *k
	if err := k.Press("m"); err != api.OK {
		t.Fatal(err)
	}
	if err := copied.Release("a"); err != api.OK {
		t.Fatal(err)
	}
	check(t, k, []string{"a", "0", "m"})
	check(t, &copied, []string{"0"})
	check(t, other, nil)
}

// 10.3

// TestOtherRowsPlayNoPart reads without a half row, whatever is down of it.
func TestOtherRowsPlayNoPart(t *testing.T) {
	some := []string{"caps", "s", "e", "4", "6", "y", "j", "m", "sym"}
	for row := range 8 {
		rest := slices.DeleteFunc(slices.Clone(some), func(name string) bool { return slices.Contains(rowDown(row, 31), name) })
		plain := with(t, rest...)
		for bits := range 32 {
			k := with(t, append(rowDown(row, bits), rest...)...)
			for high := range 256 {
				if high>>row%2 == 0 {
					continue
				}
				if got, want := k.Read(uint8(high)), plain.Read(uint8(high)); got != want {
					t.Fatalf("Read(%d) is %d, not %d, with %q down", high, got, want, rowDown(row, bits))
				}
			}
		}
	}
}

// TestMoreKeysMoreNoughts presses one key behind the other: no bit becomes 1
// again, and a row that is read has one more bit 0 for each of its keys.
func TestMoreKeysMoreNoughts(t *testing.T) {
	k := new(Keys)
	var last [256]uint8
	for high := range last {
		last[high] = 31
	}
	keys := all()
	for i := range keys {
		x := keys[i*17%40]
		if err := k.Press(x.name); err != api.OK {
			t.Fatalf("Press(%q) is %d", x.name, err)
		}
		for high := range 256 {
			want := last[high]
			if high>>x.row%2 == 0 {
				want &^= 1 << x.bit
			}
			if got := k.Read(uint8(high)); got != want {
				t.Fatalf("Read(%d) is %d, not %d, once %q is down, too", high, got, want, x.name)
			}
			last[high] = want
		}
	}
}
