package wire_test

import (
	"bytes"
	"math/rand"
	"strings"
	"testing"

	"rematch/api"
	"rematch/wire"
)

// edges are numbers around which a varint's length changes.
func edges() []uint64 {
	out := []uint64{0, 1, 1<<64 - 1, wire.MaxInt - 1, wire.MaxInt, wire.MaxInt + 1}
	for i := 1; i < 10; i++ {
		n := uint64(1) << (7 * i)
		out = append(out, n-1, n, n+1)
	}
	return out
}

// groups is the varint as the chapter says it: groups of seven bits, 128 added to all but the last one.
func groups(n uint64) []byte {
	var b []byte
	for i := 0; i == 0 || n > 0; i++ {
		b = append(b, byte(n%128))
		n /= 128
	}
	for i := range b[:len(b)-1] {
		b[i] += 128
	}
	return b
}

// P1.1: the varint, the zigzag's, the fixed number, the text, behind what is there.
func TestPut(t *testing.T) {
	for _, n := range edges() {
		want := append([]byte("head"), groups(n)...)
		if got := wire.Put([]byte("head"), n); !bytes.Equal(got, want) {
			t.Errorf("Put %d: %x, want %x", n, got, want)
		}
	}
	for n, want := range map[int64]uint64{0: 0, -1: 1, 1: 2, -2: 3, 2: 4, 1<<63 - 1: 1<<64 - 2, -1 << 63: 1<<64 - 1} {
		if got := wire.PutSigned([]byte("a"), n); !bytes.Equal(got, append([]byte("a"), groups(want)...)) {
			t.Errorf("PutSigned %d: %x", n, got)
		}
	}
	if got := wire.PutFixed([]byte{9}, 0x01020304); !bytes.Equal(got, []byte{9, 1, 2, 3, 4}) {
		t.Errorf("PutFixed: %x", got)
	}
	if got := wire.PutFixed(nil, 1<<32-1); !bytes.Equal(got, []byte{255, 255, 255, 255}) {
		t.Errorf("PutFixed: %x", got)
	}
	if got := wire.PutText([]byte("x"), "abc"); string(got) != "x\x03abc" {
		t.Errorf("PutText: %x", got)
	}
	long := strings.Repeat("q", 300)
	if got := wire.PutText(nil, long); string(got) != "\xac\x02"+long {
		t.Errorf("PutText of 300 bytes: %x", got[:4])
	}
	if got := wire.PutText(nil, ""); string(got) != "\x00" {
		t.Errorf("PutText of none: %x", got)
	}
}

// P1.1, R3: neither b nor the room behind its end is changed, and the answer shares no memory with it.
func TestPutLeavesBytes(t *testing.T) {
	puts := map[string]func([]byte) []byte{
		"Put":       func(b []byte) []byte { return wire.Put(b, 1<<40) },
		"PutSigned": func(b []byte) []byte { return wire.PutSigned(b, -5) },
		"PutFixed":  func(b []byte) []byte { return wire.PutFixed(b, 7) },
		"PutText":   func(b []byte) []byte { return wire.PutText(b, "text") },
		"none":      func(b []byte) []byte { return wire.PutText(b, "") },
	}
	for name, put := range puts {
		room := []byte("abcdefghijklmnopqrstuvwxyz")
		got := put(room[:3])
		got[0] = 'Z'
		if string(room) != "abcdefghijklmnopqrstuvwxyz" {
			t.Errorf("%s changed what it was handed: %q", name, room)
		}
	}
}

// P1.2: what stands next, one thing behind the other, with the place behind it.
func TestRead(t *testing.T) {
	b := wire.Put(nil, 1<<63)
	b = wire.Put(b, wire.MaxInt)
	b = wire.PutSigned(b, -77)
	b = wire.PutFixed(b, 0xfedcba98)
	b = wire.PutText(b, "name")
	b = append(b, 1, 2, 3)
	r := wire.Of(b)
	if r.Num() != 1<<63 || r.At() != 10 || r.Left() != len(b)-10 {
		t.Error("Num", r.At(), r.Left())
	}
	if r.Int() != wire.MaxInt || r.Signed() != -77 || r.Fixed() != 0xfedcba98 || r.Text(4) != "name" {
		t.Error("a thing is read as another one", r.Err())
	}
	if r.End() != api.ErrForm || r.Err() != api.OK || r.Left() != 3 {
		t.Error("End ahead of bytes", r.End())
	}
	if got := r.Bytes(0); len(got) != 0 || r.Err() != api.OK {
		t.Error("no bytes", got)
	}
	if one := wire.Of([]byte{9}); one.End() != api.ErrForm {
		t.Error("End ahead of one byte", one.End())
	}
	if most := wire.Of([]byte("\xff\xff\xff\xff\x07")); wire.MaxInt != 2147483647 || most.Int() != 2147483647 {
		t.Error("the greatest Int", most.Err())
	}
	if got := r.Bytes(3); !bytes.Equal(got, []byte{1, 2, 3}) || r.End() != api.OK || r.At() != len(b) || r.Left() != 0 {
		t.Error("Bytes", got, r.End())
	}
}

// fault is bytes, what reads them, and the error that it must meet.
type fault struct {
	name  string
	bytes string
	read  func(*wire.Reader) bool // whether it answers zero
	want  api.Errno
}

func num(r *wire.Reader) bool    { return r.Num() == 0 }
func whole(r *wire.Reader) bool  { return r.Int() == 0 }
func signed(r *wire.Reader) bool { return r.Signed() == 0 }
func fixed(r *wire.Reader) bool  { return r.Fixed() == 0 }
func text(most int) func(*wire.Reader) bool {
	return func(r *wire.Reader) bool { return r.Text(most) == "" }
}
func some(n int) func(*wire.Reader) bool {
	return func(r *wire.Reader) bool { return len(r.Bytes(n)) == 0 }
}

func faults() []fault {
	nine := strings.Repeat("\xff", 9)
	return []fault{
		{"none", "", num, api.ErrShort},
		{"open end", "\x80", num, api.ErrShort},
		{"nine open", nine, num, api.ErrShort},
		{"two, too long", "\x80\x00", num, api.ErrForm},
		{"three, too long", "\xff\x80\x00", num, api.ErrForm},
		{"ten, too long", strings.Repeat("\x80", 9) + "\x00", num, api.ErrForm},
		{"tenth is 2", nine + "\x02", num, api.ErrForm},
		{"tenth goes on, nothing behind", nine + "\x81", num, api.ErrForm},
		{"tenth goes on, more behind", nine + "\x80\x01", num, api.ErrForm},
		{"Int, none", "", whole, api.ErrShort},
		{"Int, beyond", "\x80\x80\x80\x80\x08", whole, api.ErrForm},
		{"Int, far beyond", nine + "\x01", whole, api.ErrForm},
		{"Signed, none", "\xff", signed, api.ErrShort},
		{"Signed, too long", "\x81\x00", signed, api.ErrForm},
		{"Fixed, three", "\x01\x02\x03", fixed, api.ErrShort},
		{"Fixed, none", "", fixed, api.ErrShort},
		{"Text, none", "", text(9), api.ErrShort},
		{"Text, too short", "\x03ab", text(3), api.ErrShort},
		{"Text, above the limit", "\x03abc", text(2), api.ErrForm},
		{"Text, above the limit and short", "\x03a", text(2), api.ErrForm},
		{"Text, limit below 0", "\x00", text(-1), api.ErrForm},
		{"Text, limit below 0, no number", "", text(-1), api.ErrShort},
		{"Text, number too long", "\x80\x00", text(9), api.ErrForm},
		{"Text, huge number, huge limit", nine + "\x01a", text(1<<63 - 1), api.ErrForm},
		{"Text, great number, great limit", "\x80\x80\x80\x80\x10a", text(1 << 40), api.ErrShort},
		{"Bytes, too many", "ab", some(3), api.ErrShort},
		{"Bytes, below 0", "ab", some(-1), api.ErrForm},
		{"Bytes, far below 0", "", some(-1 << 63), api.ErrForm},
		{"Bytes, most of all", "ab", some(1<<63 - 1), api.ErrShort},
	}
}

// P1.2, P1.3: a reader that fails answers zero, stays where it was, and its first error stays.
func TestFaults(t *testing.T) {
	for _, f := range faults() {
		r := wire.Of([]byte("\x05" + f.bytes))
		if r.Num() != 5 || r.At() != 1 {
			t.Fatal("the byte ahead")
		}
		if !f.read(r) || r.Err() != f.want || r.End() != f.want || r.At() != 1 || r.Left() != len(f.bytes) {
			t.Errorf("%s: error %v, place %d, left %d", f.name, r.Err(), r.At(), r.Left())
		}
		zero := r.Num() == 0 && r.Int() == 0 && r.Signed() == 0 && r.Fixed() == 0 && r.Text(100) == "" && len(r.Bytes(0)) == 0 && len(r.Bytes(1)) == 0 && len(r.Bytes(-1)) == 0 && r.Text(-1) == ""
		if !zero || r.Err() != f.want || r.At() != 1 {
			t.Errorf("%s: a failed reader reads on, or its error changes to %v", f.name, r.Err())
		}
	}
}

// P1.3: of nil.
func TestNil(t *testing.T) {
	var r *wire.Reader
	if r.At() != 0 || r.Left() != 0 || r.Err() != api.ErrNil || r.End() != api.ErrNil {
		t.Error("place, bytes left, errors of nil")
	}
	if r.Num() != 0 || r.Int() != 0 || r.Signed() != 0 || r.Fixed() != 0 || r.Text(3) != "" || len(r.Bytes(3)) != 0 {
		t.Error("something is read from nil")
	}
	if e := wire.Of(nil); e.End() != api.OK || e.Left() != 0 || e.Num() != 0 || e.Err() != api.ErrShort {
		t.Error("a reader of no bytes")
	}
	var zero wire.Reader
	if zero.End() != api.OK || zero.Fixed() != 0 || zero.Err() != api.ErrShort {
		t.Error("a zero reader")
	}
}

// R3: a reader keeps no memory that it was handed, and hands out none of its own.
func TestReaderMemory(t *testing.T) {
	b := []byte("abcdef")
	r := wire.Of(b)
	b[0], b[3] = 'X', 'X'
	one := r.Bytes(3)
	if string(one) != "abc" {
		t.Errorf("the reader sees a change from outside: %q", one)
	}
	_ = append(one[:1], "ZZZZZ"...)
	if got := r.Bytes(3); string(got) != "def" || string(b) != "XbcXef" {
		t.Errorf("memory is shared: %q %q", got, b)
	}
}

// P1.4: what is put is read as itself, whatever is behind it.
func TestPutRead(t *testing.T) {
	rnd := rand.New(rand.NewSource(1))
	nums := edges()
	for range 2000 {
		nums = append(nums, rnd.Uint64()>>rnd.Intn(64))
	}
	for _, n := range nums {
		tail := make([]byte, rnd.Intn(4))
		rnd.Read(tail)
		back := func(b []byte) *wire.Reader { return wire.Of(append(b, tail...)) }
		r := back(wire.Put(nil, n))
		if r.Num() != n || r.Err() != api.OK || r.Left() != len(tail) {
			t.Fatalf("Num %d", n)
		}
		if r := back(wire.PutSigned(nil, int64(n))); r.Signed() != int64(n) || r.Left() != len(tail) {
			t.Fatalf("Signed %d", int64(n))
		}
		if r := back(wire.PutFixed(nil, uint32(n))); r.Fixed() != uint32(n) || r.Left() != len(tail) {
			t.Fatalf("Fixed %d", uint32(n))
		}
		s := strings.Repeat("\x00\xff", int(n%200))
		if r := back(wire.PutText(nil, s)); r.Text(len(s)) != s || r.Left() != len(tail) {
			t.Fatalf("Text of %d bytes", len(s))
		}
		r = back(wire.Put(nil, n))
		if got := r.Int(); (n <= wire.MaxInt) != (r.Err() == api.OK) || r.Err() == api.OK && got != int(n) {
			t.Fatalf("Int %d: %d", n, got)
		}
	}
}

// P1.4: bytes that are read as a number are put as themselves.
func TestReadPut(t *testing.T) {
	rnd := rand.New(rand.NewSource(2))
	for range 20000 {
		b := make([]byte, rnd.Intn(13))
		for i := range b {
			b[i] = []byte{0, 1, 2, 127, 128, 129, 255, byte(rnd.Intn(256))}[rnd.Intn(8)]
		}
		r := wire.Of(b)
		if n := r.Num(); r.Err() == api.OK && !bytes.Equal(wire.Put(nil, n), b[:r.At()]) {
			t.Fatalf("%x is read as %d", b, n)
		}
		r = wire.Of(b)
		if n := r.Signed(); r.Err() == api.OK && !bytes.Equal(wire.PutSigned(nil, n), b[:r.At()]) {
			t.Fatalf("%x is read as %d", b, n)
		}
	}
}

// P1.4: unlike numbers have unlike varints, of which none begins another one.
func TestUnlike(t *testing.T) {
	nums := edges()
	for i, n := range nums {
		for j, m := range nums {
			if i != j && n != m && bytes.HasPrefix(wire.Put(nil, n), wire.Put(nil, m)) {
				t.Errorf("the varint of %d begins that of %d", m, n)
			}
		}
	}
}
