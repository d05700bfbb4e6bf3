package inflate

import (
	"bytes"
	"compress/flate"
	"io"
	"slices"
	"testing"

	"squeal/api"
)

// edges are how many bytes are stored in the tests.
func edges() []int {
	l := []int{0, 1, 2, 3, 254, 255, 256, 257, 4096, 32767, 32768, 100000}
	for _, n := range []int{65535, 2 * 65535, 3 * 65535, 65536, 2 * 65536} {
		l = append(l, n-2, n-1, n, n+1, n+2)
	}
	return l
}

// 15.1

func TestStoreWrittenOut(t *testing.T) {
	for _, x := range []struct {
		plain string
		want  []byte
	}{
		{"", []byte{1, 0, 0, 0xff, 0xff}},
		{"a", []byte{1, 1, 0, 0xfe, 0xff, 'a'}},
		{"abc", []byte{1, 3, 0, 0xfc, 0xff, 'a', 'b', 'c'}},
	} {
		if got := Store([]byte(x.plain)); !bytes.Equal(got, x.want) {
			t.Errorf("Store(%q) is %v", x.plain, got)
		}
	}
	if got := Store(nil); !bytes.Equal(got, []byte{1, 0, 0, 0xff, 0xff}) {
		t.Errorf("Store(nil) is %v", got)
	}
}

// TestBlocksOfStore has all blocks but the last one have 65,535 bytes, and the
// last one what is left, at least one byte behind others.
func TestBlocksOfStore(t *testing.T) {
	for _, n := range edges() {
		b := rule(n, n)
		var want []byte
		for i := 0; i == 0 || i < n; i += 65535 {
			part := b[i:min(i+65535, n)]
			head := []byte{0, byte(len(part) % 256), byte(len(part) / 256), byte(255 - len(part)%256), byte(255 - len(part)/256)}
			if i+65535 >= n {
				head[0] = 1
			}
			want = slices.Concat(want, head, part)
		}
		if got := Store(b); !bytes.Equal(got, want) {
			t.Errorf("Store of %d bytes is other %d bytes than %d", n, len(got), len(want))
		}
	}
}

func TestStoreSharesNothing(t *testing.T) {
	for _, n := range []int{10, 70000} {
		b := make([]byte, n, n+100)
		copy(b, rule(1, n))
		first, second := Store(b), Store(b)
		if !bytes.Equal(b, rule(1, n)) || !bytes.Equal(b[n:n+100], make([]byte, 100)) {
			t.Fatal("what was handed in is changed")
		}
		clear(second)
		clear(b)
		if got, _, e := Inflate(first, n); !bytes.Equal(got, rule(1, n)) || e != api.OK {
			t.Fatal("what was stored shares bytes")
		}
	}
}

// 15.2

func TestStoredIsUnpacked(t *testing.T) {
	for _, n := range edges() {
		for _, b := range [][]byte{rule(n, n), make([]byte, n), bytes.Repeat([]byte{255}, n)} {
			checkWhole(t, "stored", Store(b), b)
		}
	}
	b := rule(1, 1048576)
	checkWhole(t, "as many as may be", Store(b), b)
	b = append(b, 0)
	checkWrong(t, "one more", Store(b), 1048576, api.ErrLong)
}

func TestLibraryUnpacksWhatIsStored(t *testing.T) {
	for _, n := range edges() {
		got, err := io.ReadAll(flate.NewReader(bytes.NewReader(Store(rule(n, n)))))
		if err != nil || !bytes.Equal(got, rule(n, n)) {
			t.Errorf("%d bytes, stored: %d, %v", n, len(got), err)
		}
	}
}
