package chunk_test

import (
	"bytes"
	"hash/crc32"
	"math/rand"
	"strings"
	"testing"

	"rematch/api"
	"rematch/chunk"
	"rematch/lz"
	"rematch/wire"
)

// sealed is bytes and their checksum behind them.
func sealed(b string) []byte {
	return wire.PutFixed([]byte(b), crc32.ChecksumIEEE([]byte(b)))
}

// data makes bytes that are packed well, or not.
func data(rnd *rand.Rand, n int) []byte {
	b := make([]byte, n)
	rnd.Read(b)
	if rnd.Intn(2) == 0 {
		for i := range b {
			b[i] &= 3
		}
	}
	return b
}

// P18.1: the example; raw, if packing is not shorter; packed, if it is.
func TestPut(t *testing.T) {
	for _, r := range []struct {
		name string
		kind uint8
		data string
		want string
	}{
		{"example", 7, "a", "\x07\x00\x01\x01a"},
		{"none", 0, "", "\x00\x00\x00\x00"},
		{"the kind 255", 255, "ab", "\xff\x00\x02\x02ab"},
		{"packed", 3, "aaaaaaaa", "\x03\x01\x08\x04\x00a\x09\x00"},
		{"packed to as many", 3, "aaaa", "\x03\x00\x04\x04aaaa"},
		{"packed to one less", 3, "aaaaa", "\x03\x01\x05\x04\x00a\x03\x00"},
		{"300 bytes", 1, strings.Repeat("b", 300), "\x01\x01\xac\x02\x0c" + string(lz.Pack([]byte(strings.Repeat("b", 300))))},
	} {
		if got := chunk.Put(nil, r.kind, []byte(r.data)); !bytes.Equal(got, sealed(r.want)) {
			t.Errorf("%s: %x, want %x", r.name, got, sealed(r.want))
		}
		got := chunk.Put([]byte("ahead"), r.kind, []byte(r.data))
		if !bytes.Equal(got, append([]byte("ahead"), sealed(r.want)...)) {
			t.Errorf("%s, behind bytes: %x", r.name, got)
		}
	}
}

// P18.1, R3: b and the room behind it stay, and so does the data.
func TestPutLeaves(t *testing.T) {
	room := []byte(strings.Repeat("x", 64))
	text := []byte("abcabcabcabc")
	got := chunk.Put(room[:3], 1, text)
	got[0] = 'Z'
	if string(room) != strings.Repeat("x", 64) || string(text) != "abcabcabcabc" {
		t.Errorf("%q, %q", room, text)
	}
	c := chunk.Put(nil, 1, text)
	was := bytes.Clone(c)
	_, back, _, _ := chunk.Take(c, 0, 99)
	clear(back)
	_, raw, _, _ := chunk.Take(chunk.Put(nil, 1, []byte("q")), 0, 99)
	raw[0] = 'Z'
	if !bytes.Equal(c, was) {
		t.Error("an answer shares memory with the chunk")
	}
}

// P18.2: which error wrong bytes meet, with and without the data being looked at.
func TestFaults(t *testing.T) {
	whole := chunk.Put(nil, 7, []byte("abc"))
	change := func(at int, to byte) []byte {
		b := bytes.Clone(whole)
		b[at] = to
		return b
	}
	for _, r := range []struct {
		name       string
		b          []byte
		at, most   int
		skip, take api.Errno
	}{
		{"a place below 0", whole, -1, 9, api.ErrArg, api.ErrArg},
		{"far below 0", whole, -1 << 63, 9, api.ErrArg, api.ErrArg},
		{"behind the end", whole, len(whole) + 1, 9, api.ErrArg, api.ErrArg},
		{"far behind the end", whole, 1<<63 - 1, 9, api.ErrArg, api.ErrArg},
		{"at the end", whole, len(whole), 9, api.ErrShort, api.ErrShort},
		{"no bytes", nil, 0, 9, api.ErrShort, api.ErrShort},
		{"no bytes, behind them", nil, 1, 9, api.ErrArg, api.ErrArg},
		{"the byte 2", change(1, 2), 0, 9, api.ErrForm, api.ErrForm},
		{"the byte 2, and no more", []byte("\x07\x02"), 0, 9, api.ErrForm, api.ErrForm},
		{"the byte 255, numbers wrong", []byte("\x07\xff\x80\x00"), 0, 9, api.ErrForm, api.ErrForm},
		{"a number too long", []byte("\x07\x00\x80\x00"), 0, 9, api.ErrForm, api.ErrForm},
		{"a number beyond Int", []byte("\x07\x00\x80\x80\x80\x80\x08"), 0, 9, api.ErrForm, api.ErrForm},
		{"a second number beyond Int", []byte("\x07\x00\x01\x80\x80\x80\x80\x08"), 0, 9, api.ErrForm, api.ErrForm},
		{"raw, unlike, and no more", []byte("\x07\x00\x03\x02"), 0, 9, api.ErrForm, api.ErrForm},
		{"packed, as many, and no more", []byte("\x07\x01\x03\x03"), 0, 9, api.ErrForm, api.ErrForm},
		{"packed, more, and no more", []byte("\x07\x01\x03\x04"), 0, 9, api.ErrForm, api.ErrForm},
		{"packed, none of none", sealed("\x07\x01\x00\x00"), 0, 9, api.ErrForm, api.ErrForm},
		{"great numbers", []byte("\x07\x00\xff\xff\xff\xff\x07\xff\xff\xff\xff\x07abc"), 0, 9, api.ErrShort, api.ErrShort},
		{"another kind", change(0, 8), 0, 9, api.ErrSum, api.ErrSum},
		{"another byte", change(5, 'x'), 0, 9, api.ErrSum, api.ErrSum},
		{"another checksum", change(len(whole)-1, whole[len(whole)-1]^1), 0, 9, api.ErrSum, api.ErrSum},
		{"another byte, above the limit", change(5, 'x'), 0, 2, api.ErrSum, api.ErrSum},
		{"above the limit", whole, 0, 2, api.OK, api.ErrLimit},
		{"limit below 0", whole, 0, -1, api.OK, api.ErrLimit},
		{"no data, limit below 0", sealed("\x07\x00\x00\x00"), 0, -1, api.OK, api.ErrLimit},
		{"no data, limit 0", sealed("\x07\x00\x00\x00"), 0, 0, api.OK, api.OK},
		{"packed, no tokens", sealed("\x07\x01\x09\x01\xff"), 0, 9, api.OK, api.ErrForm},
		{"packed, short tokens", sealed("\x07\x01\x09\x02\x04a"), 0, 9, api.OK, api.ErrForm},
		{"packed, too few", sealed("\x07\x01\x09\x04\x00a\x09\x00"), 0, 9, api.OK, api.ErrForm},
		{"packed, too many", sealed("\x07\x01\x07\x04\x00a\x09\x00"), 0, 9, api.OK, api.ErrForm},
		{"packed, too many, above the limit", sealed("\x07\x01\x07\x04\x00a\x09\x00"), 0, 6, api.OK, api.ErrLimit},
		{"packed", sealed("\x07\x01\x08\x04\x00a\x09\x00"), 0, 8, api.OK, api.OK},
		{"raw, though packing is shorter", sealed("\x07\x00\x08\x08aaaaaaaa"), 0, 8, api.OK, api.OK},
	} {
		kind, end, err := chunk.Skip(r.b, r.at)
		if err != r.skip || err != api.OK && (kind != 0 || end != 0) || err == api.OK && (kind != 7 || end != len(r.b)) {
			t.Errorf("%s: Skip: %d, %d, %v, want %v", r.name, kind, end, err, r.skip)
		}
		kind, got, end, err := chunk.Take(r.b, r.at, r.most)
		if err != r.take || err != api.OK && (kind != 0 || end != 0 || len(got) != 0) || err == api.OK && (kind != 7 || end != len(r.b)) {
			t.Errorf("%s: Take: %d, %x, %d, %v, want %v", r.name, kind, got, end, err, r.take)
		}
	}
	for n := range whole {
		if _, _, err := chunk.Skip(whole[:n], 0); err != api.ErrShort {
			t.Errorf("%d bytes: %v", n, err)
		}
	}
}

// P18.3: what is put is taken as itself, whatever stands ahead, and behind; it has at most 16 bytes more.
func TestPutTake(t *testing.T) {
	rnd := rand.New(rand.NewSource(1))
	for range 500 {
		text := data(rnd, rnd.Intn(400))
		ahead, behind := data(rnd, rnd.Intn(40)), data(rnd, rnd.Intn(40))
		kind := uint8(rnd.Intn(256))
		b := chunk.Put(ahead, kind, text)
		end := len(b)
		if end-len(ahead) > len(text)+16 {
			t.Fatalf("%d bytes of %d", end-len(ahead), len(text))
		}
		b = append(b, behind...)
		k, got, at, err := chunk.Take(b, len(ahead), len(text))
		if k != kind || !bytes.Equal(got, text) || at != end || err != api.OK {
			t.Fatalf("Take: %d, %x, %d, %v", k, got, at, err)
		}
		if k, at, err := chunk.Skip(b, len(ahead)); k != kind || at != end || err != api.OK {
			t.Fatalf("Skip: %d, %d, %v", k, at, err)
		}
	}
}

// P18.3: if a byte of a chunk is changed, it is refused, or ends elsewhere.
func TestChanged(t *testing.T) {
	rnd := rand.New(rand.NewSource(2))
	for range 60 {
		b := chunk.Put(nil, uint8(rnd.Intn(256)), data(rnd, rnd.Intn(60)))
		end := len(b)
		b = append(b, data(rnd, rnd.Intn(60))...)
		for at := range end {
			was := b[at]
			b[at] ^= byte(1 + rnd.Intn(255))
			if _, to, err := chunk.Skip(b, 0); err == api.OK && to == end {
				t.Fatalf("the byte %d is changed", at)
			}
			if _, _, to, err := chunk.Take(b, 0, 1000); err == api.OK && to == end {
				t.Fatalf("the byte %d is changed", at)
			}
			b[at] = was
		}
	}
}
