package lz_test

import (
	"bytes"
	"math/rand"
	"strings"
	"testing"

	"rematch/api"
	"rematch/lz"
	"rematch/wire"
)

// slow packs as the chapter's words tell it, with all earlier places looked through anew.
func slow(b []byte) []byte {
	var out, literals []byte
	tell := func() {
		for len(literals) > 0 {
			n := min(64, len(literals))
			out = append(append(out, byte(2*(n-1))), literals[:n]...)
			literals = literals[n:]
		}
	}
	for at := 0; at < len(b); {
		back, length, places := 0, 0, 0
		for from := at - 1; from >= 0 && at-from <= lz.Window && places < 16 && at+3 <= len(b); from-- {
			if !bytes.Equal(b[from:from+3], b[at:at+3]) {
				continue
			}
			places++
			n := 0
			for n < 66 && at+n < len(b) && b[from+n] == b[at+n] {
				n++
			}
			if n > length && (n > 3 || at-from <= 128) {
				back, length = at-from, n
			}
		}
		if length == 0 {
			literals = append(literals, b[at])
			at++
			continue
		}
		tell()
		out = wire.Put(append(out, byte(2*(length-3)+1)), uint64(back-1))
		at += length
	}
	tell()
	return out
}

// text makes bytes of few letters, with pieces that come again.
func text(rnd *rand.Rand, n int) []byte {
	var b []byte
	letters := 1 + rnd.Intn(6)
	for len(b) < n {
		if len(b) > 0 && rnd.Intn(4) == 0 {
			from := rnd.Intn(len(b))
			b = append(b, b[from:min(len(b), from+rnd.Intn(90))]...)
			continue
		}
		b = append(b, byte('a'+rnd.Intn(letters)))
	}
	return b[:n]
}

// P4.1: bytes, packed.
func TestPack(t *testing.T) {
	noise := make([]byte, 130)
	for i := range noise {
		noise[i] = byte(i)
	}
	runs := "\x7e" + string(noise[:64]) + "\x7e" + string(noise[64:128]) + "\x02" + string(noise[128:])
	rows := []struct{ b, want string }{
		{"", ""},
		{"a", "\x00a"},
		{"ab", "\x02ab"},
		{"aaaaaaaa", "\x00a\x09\x00"},
		{"abcabc", "\x04abc\x01\x02"},
		{"abcab", "\x08abcab"},
		{"abcabcd", "\x04abc\x01\x02\x00d"},
		{string(noise), runs},
		{strings.Repeat("a", 68), "\x00a\x7f\x00\x00a"},
		{strings.Repeat("a", 1+66+3), "\x00a\x7f\x00\x01\x00"},
	}
	for _, r := range rows {
		if got := lz.Pack([]byte(r.b)); string(got) != r.want {
			t.Errorf("%q: %q, want %q", r.b, got, r.want)
		}
	}
	rnd := rand.New(rand.NewSource(1))
	for range 600 {
		b := text(rnd, rnd.Intn(500))
		if got, want := lz.Pack(b), slow(b); !bytes.Equal(got, want) {
			t.Fatalf("%q: %x, want %x", b, got, want)
		}
	}
}

// P4.1: the edges of the window, of a match of just three bytes, and of the 16 latest places.
func TestPackEdges(t *testing.T) {
	// filler has no three bytes twice.
	filler := func(n int) []byte {
		b := make([]byte, 0, n+3)
		for i := 0; len(b) < n; i++ {
			b = append(b, byte(128+i%128), byte(128+i/128), byte(i%100))
		}
		return b[:n]
	}
	for _, gap := range []int{124, 125, 126, 127, 200, 4091, 4092, 4093, 4094, 4095, 4096} {
		for _, piece := range []string{"xyz", "wxyz", "vwxyz"} {
			b := append([]byte(piece), filler(gap)...)
			b = append(append(b, piece...), 7)
			if got, want := lz.Pack(b), slow(b); !bytes.Equal(got, want) {
				t.Errorf("%q, %d apart: %x, want %x", piece, gap, got[len(got)-12:], want[len(want)-12:])
			}
		}
	}
	for places := 14; places < 20; places++ {
		b := []byte("abcLONGER")
		for i := range places {
			b = append(b, 'a', 'b', 'c', byte(i), byte(i+100))
		}
		b = append(b, "abcLONGER"...)
		if got, want := lz.Pack(b), slow(b); !bytes.Equal(got, want) {
			t.Errorf("%d places: %x, want %x", places, got, want)
		}
	}
	rnd := rand.New(rand.NewSource(9))
	long := append(text(rnd, 9000), filler(5000)...)
	long = append(long, text(rnd, 9000)...)
	if !bytes.Equal(lz.Pack(long), slow(long)) {
		t.Error("a long text")
	}
}

// P4.2: what tokens tell; and which error wrong ones meet.
func TestUnpack(t *testing.T) {
	nine := strings.Repeat("\xff", 9)
	rows := []struct {
		name, c string
		most    int
		b       string
		err     api.Errno
	}{
		{"none", "", 0, "", api.OK},
		{"none, limit below 0", "", -5, "", api.OK},
		{"a run", "\x04abc", 3, "abc", api.OK},
		{"a match into itself", "\x00a\x09\x00", 8, "aaaaaaaa", api.OK},
		{"a match", "\x04abc\x01\x02", 6, "abcabc", api.OK},
		{"otherwise than packed", "\x00a\x00a\x00a\x00a", 4, "aaaa", api.OK},
		{"k of 128", "\x00a\x80", 9, "", api.ErrForm},
		{"k of 255", "\xff", 9, "", api.ErrForm},
		{"k of 128, no room", "\x80", -1, "", api.ErrForm},
		{"a run above the limit", "\x04abc", 2, "", api.ErrLimit},
		{"a run, limit below 0", "\x00a", -1, "", api.ErrLimit},
		{"a short run above the limit", "\x04a", 2, "", api.ErrLimit},
		{"a short run", "\x04ab", 3, "", api.ErrShort},
		{"a run of none", "\x00", 3, "", api.ErrShort},
		{"no distance", "\x00a\x01", 9, "", api.ErrShort},
		{"an open distance", "\x00a\x01\x80", 9, "", api.ErrShort},
		{"a distance too long", "\x00a\x01\x80\x00", 9, "", api.ErrForm},
		{"a distance too great", "\x00a\x01" + nine + "\x02", 9, "", api.ErrForm},
		{"the greatest distance", "\x00a\x01" + nine + "\x01", 9, "", api.ErrForm},
		{"ahead of the beginning", "\x00a\x01\x01", 9, "", api.ErrForm},
		{"at the beginning", "\x01\x00", 9, "", api.ErrForm},
		{"ahead of the beginning, above the limit", "\x00a\x01\x01", 1, "", api.ErrForm},
		{"a match above the limit", "\x00a\x01\x00", 3, "", api.ErrLimit},
		{"no distance, above the limit", "\x00a\x01", 1, "", api.ErrShort},
	}
	for _, r := range rows {
		got, err := lz.Unpack([]byte(r.c), r.most)
		if err != r.err || string(got) != r.b {
			t.Errorf("%s: %q, %v, want %q, %v", r.name, got, err, r.b, r.err)
		}
	}
}

// P4.2: a match is 1 to Window back, and not farther.
func TestUnpackWindow(t *testing.T) {
	var c []byte
	for range 70 {
		c = append(append(c, 126), bytes.Repeat([]byte("b"), 64)...)
	}
	c[1] = 'a'
	told := 70 * 64
	for back, want := range map[int]api.Errno{1: api.OK, 4095: api.OK, 4096: api.OK, 4097: api.ErrForm, told: api.ErrForm} {
		got, err := lz.Unpack(wire.Put(append(bytes.Clone(c), 127), uint64(back-1)), told+66)
		if err != want || (err == api.OK && len(got) != told+66) {
			t.Errorf("%d back: %d bytes, %v", back, len(got), err)
		}
	}
}

// P4.3: what is packed is unpacked as itself, and is not much longer.
func TestPackUnpack(t *testing.T) {
	rnd := rand.New(rand.NewSource(2))
	for i := range 400 {
		b := text(rnd, rnd.Intn(3000))
		if i%3 == 0 {
			rnd.Read(b)
		}
		c := lz.Pack(b)
		if got, err := lz.Unpack(c, len(b)); err != api.OK || !bytes.Equal(got, b) {
			t.Fatalf("%d bytes: %v", len(b), err)
		}
		if len(c) > len(b)+len(b)/64+1 {
			t.Fatalf("%d bytes become %d", len(b), len(c))
		}
		if len(b) > 0 {
			if got, err := lz.Unpack(c, len(b)-1); err != api.ErrLimit || len(got) != 0 {
				t.Fatalf("above the limit: %v", err)
			}
		}
	}
	if c := lz.Pack(make([]byte, 66000)); len(c) > 2100 {
		t.Errorf("a row of equal bytes: %d", len(c))
	}
}

// R1, R2: any bytes are answered, and twice alike; nothing that is handed in is changed.
func TestAnyBytes(t *testing.T) {
	rnd := rand.New(rand.NewSource(3))
	for range 20000 {
		c := make([]byte, rnd.Intn(12))
		for i := range c {
			c[i] = byte(rnd.Intn(12))
		}
		was := bytes.Clone(c)
		b, err := lz.Unpack(c, 100)
		again, err2 := lz.Unpack(c, 100)
		if err != err2 || !bytes.Equal(b, again) || !bytes.Equal(c, was) || err != api.OK && len(b) != 0 || len(b) > 100 {
			t.Fatalf("%x: %x, %v; %x, %v", was, b, err, again, err2)
		}
	}
}
