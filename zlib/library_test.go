package zlib

import (
	"bytes"
	lib "compress/zlib"
	"io"
	"slices"
	"testing"

	"squeal/api"
)

// byLibrary is b as the library packs it.
func byLibrary(t *testing.T, b []byte, level int) []byte {
	t.Helper()
	var out bytes.Buffer
	w, err := lib.NewWriterLevel(&out, level)
	if err != nil {
		t.Fatal(err)
	}
	w.Write(b)
	w.Close()
	return out.Bytes()
}

// plains are rows that are packed in all kinds of ways.
func plains() [][]byte {
	l := [][]byte{nil, {0}, []byte("abcabcabc"), rule(1, 3000), make([]byte, 70000), bytes.Repeat([]byte("squeal "), 2000)}
	c := chance(5)
	text := make([]byte, 40000)
	for i := range text {
		text[i] = byte('a' + c.below(1+c.below(6)))
	}
	return append(l, text)
}

// 16.1

func TestLibraryPacks(t *testing.T) {
	for _, plain := range plains() {
		for level := lib.HuffmanOnly; level <= lib.BestCompression; level++ {
			checkWhole(t, "packed by the library", byLibrary(t, plain, level), plain)
		}
	}
}

func TestLibraryUnpacks(t *testing.T) {
	for _, plain := range append(plains(), rule(2, 65535), rule(3, 131070), rule(4, 131071)) {
		r, err := lib.NewReader(bytes.NewReader(Pack(plain)))
		if err != nil {
			t.Fatal(err)
		}
		got, err := io.ReadAll(r)
		if err != nil || !bytes.Equal(got, plain) {
			t.Errorf("%d bytes: %d, %v", len(plain), len(got), err)
		}
	}
}

// libraryTells is what the library makes of b: its bytes, and which error it
// has, as far as it tells it.
func libraryTells(b []byte) ([]byte, api.Errno) {
	r, err := lib.NewReader(bytes.NewReader(b))
	var got []byte
	if err == nil {
		got, err = io.ReadAll(r)
	}
	switch err {
	case nil:
		return got, api.OK
	case lib.ErrChecksum:
		return nil, api.ErrSum
	case io.ErrUnexpectedEOF, io.EOF:
		return nil, api.ErrEnd
	}
	return nil, api.ErrForm
}

// TestHeldAgainstLibrary changes bytes of short rows, and cuts some short: where
// the library unpacks, so does this, and where the sum is wrong, it is told.
func TestHeldAgainstLibrary(t *testing.T) {
	c := chance(77)
	counts := map[api.Errno]int{}
	var packed [][]byte
	for i := range 240 {
		plain := rule(i, c.below(12))
		if c.below(2) == 0 {
			plain = bytes.Repeat([]byte{byte(c.below(256))}, c.below(40))
		}
		packed = append(packed, byLibrary(t, plain, i%12-2))
	}
	for range 20000 {
		b := slices.Clone(packed[c.below(len(packed))])
		if c.below(3) > 0 {
			b[c.below(len(b))] ^= 1 << c.below(8)
		}
		if c.below(6) == 0 {
			b = b[:c.below(len(b))]
		}
		want, wantE := libraryTells(b)
		got, n, e := Unpack(slices.Clone(b), api.MaxOut)
		counts[e]++
		if (e == api.OK) != (wantE == api.OK) || (e == api.ErrSum) != (wantE == api.ErrSum) || !bytes.Equal(got, want) || (e == api.OK) != (n > 0) {
			t.Fatalf("%x is %d bytes, %d, %d, and by the library %d bytes, %d", b, len(got), n, e, len(want), wantE)
		}
	}
	for _, e := range []api.Errno{api.OK, api.ErrSum, api.ErrEnd, api.ErrForm} {
		if counts[e] < 100 {
			t.Errorf("%d is told %d times", e, counts[e])
		}
	}
}
