package delta_test

import (
	"bytes"
	"math/rand"
	"testing"

	"rematch/api"
	"rematch/delta"
	"rematch/wire"
)

// slow is the difference as the chapter's words tell it, with what is left looked through anew each time.
func slow(a, b []byte) []byte {
	x := bytes.Clone(b)
	for i := range x {
		if i < len(a) {
			x[i] ^= a[i]
		}
	}
	out := wire.Put(nil, uint64(len(b)))
	for len(bytes.Trim(x, "\x00")) > 0 {
		left := bytes.TrimLeft(x, "\x00")
		out = wire.Put(out, uint64(len(x)-len(left)))
		literal := bytes.TrimRight(left, "\x00")
		if i := bytes.Index(left, make([]byte, 4)); i >= 0 && i < len(literal) {
			literal = left[:i]
		}
		out = wire.PutText(out, string(literal))
		x = left[len(literal):]
	}
	return out
}

// near makes two texts that are alike here and there.
func near(rnd *rand.Rand) (a, b []byte) {
	a = make([]byte, rnd.Intn(40))
	rnd.Read(a)
	b = bytes.Clone(a)
	for range rnd.Intn(6) {
		if len(b) > 0 {
			b[rnd.Intn(len(b))] ^= byte(rnd.Intn(3))
		}
	}
	switch rnd.Intn(3) {
	case 0:
		b = b[:rnd.Intn(len(b)+1)]
	case 1:
		b = append(b, make([]byte, rnd.Intn(9))...)
		b = append(b, []byte("xyz")[:rnd.Intn(4)]...)
	}
	return a, b
}

// P3.1: the difference.
func TestDiff(t *testing.T) {
	rows := []struct{ a, b, want string }{
		{"abc", "abd", "\x03\x02\x01\x07"},
		{"abcdefgh", "abc", "\x03"},
		{"", "", "\x00"},
		{"abc", "", "\x00"},
		{"", "abc", "\x03\x00\x03abc"},
		{"abc", "abc", "\x03"},
		{"", "\x00\x00", "\x02"},
		{"", "\x00\x00\x01\x00", "\x04\x02\x01\x01"},
		{"", "a\x00\x00\x00b", "\x05\x00\x05a\x00\x00\x00b"},
		{"", "a\x00\x00\x00\x00b", "\x06\x00\x01a\x04\x01b"},
		{"", "a\x00\x00\x00\x00\x00bc\x00\x00\x00", "\x0b\x00\x01a\x05\x02bc"},
		{"", "ab\x00\x00\x00", "\x05\x00\x02ab"},
	}
	for _, r := range rows {
		if got := delta.Diff([]byte(r.a), []byte(r.b)); string(got) != r.want {
			t.Errorf("%q, %q: %q, want %q", r.a, r.b, got, r.want)
		}
	}
	rnd := rand.New(rand.NewSource(1))
	for range 5000 {
		a, b := near(rnd)
		if got, want := delta.Diff(a, b), slow(a, b); !bytes.Equal(got, want) {
			t.Fatalf("%x, %x: %x, want %x", a, b, got, want)
		}
	}
}

// P3.2: bytes that are no difference, and which error each of them meets.
func TestApplyFaults(t *testing.T) {
	rows := []struct {
		name string
		d    string
		most int
		want api.Errno
	}{
		{"none", "", 9, api.ErrShort},
		{"none, limit below 0", "", -1, api.ErrShort},
		{"number too long", "\x80\x00", 9, api.ErrForm},
		{"number beyond Int", "\x80\x80\x80\x80\x08", 1 << 40, api.ErrForm},
		{"above the limit", "\x03", 2, api.ErrLimit},
		{"above the limit, wrong behind it", "\x03\xff", 2, api.ErrLimit},
		{"limit below 0", "\x00", -1, api.ErrLimit},
		{"zeros end", "\x03\x80", 9, api.ErrShort},
		{"no literals", "\x03\x01", 9, api.ErrShort},
		{"literals end", "\x03\x01\x02a", 9, api.ErrShort},
		{"literals beyond the end", "\x03\x01\x03abc", 9, api.ErrForm},
		{"literals beyond the end, and short", "\x03\x01\x03a", 9, api.ErrForm},
		{"zeros beyond the end", "\x03\x04\x01a", 9, api.ErrForm},
		{"zeros beyond the end, nothing behind", "\x03\x04", 9, api.ErrForm},
		{"zeros to the end, nothing behind", "\x03\x03", 9, api.ErrShort},
		{"a second run's zeros beyond the end", "\x05\x00\x01a\x05", 9, api.ErrForm},
		{"a second run's literals beyond the end", "\x05\x00\x01a\x04\x01", 9, api.ErrForm},
		{"great zeros", "\x03\xff\xff\xff\xff\x07\x00", 9, api.ErrForm},
		{"zeros beyond Int", "\x03\x80\x80\x80\x80\x08\x00", 9, api.ErrForm},
		{"a run without literals", "\x03\x01\x00", 9, api.ErrForm},
		{"a run without literals, then a short one", "\x03\x01\x00\x00\x02a", 9, api.ErrShort},
		{"a run behind the end", "\x01\x00\x01a\x00\x00", 9, api.ErrForm},
		{"a literal that begins with zero", "\x03\x00\x02\x00a", 9, api.ErrForm},
		{"a literal that ends with zero", "\x03\x00\x02a\x00", 9, api.ErrForm},
		{"a literal with four zeros", "\x06\x00\x06a\x00\x00\x00\x00b", 9, api.ErrForm},
		{"runs three zeros apart", "\x05\x00\x01a\x03\x01b", 9, api.ErrForm},
		{"most of all, wrong behind it", "\xff\xff\xff\xff\x07\x00\x05a", 1 << 31, api.ErrShort},
	}
	for _, r := range rows {
		got, err := delta.Apply([]byte("abcdef"), []byte(r.d), r.most)
		if err != r.want || len(got) != 0 {
			t.Errorf("%s: %q, %v, want %v", r.name, got, err, r.want)
		}
	}
}

// P3.2, P3.3: what differs is applied, up to the limit.
func TestApply(t *testing.T) {
	rnd := rand.New(rand.NewSource(2))
	for range 5000 {
		a, b := near(rnd)
		d := delta.Diff(a, b)
		if got, err := delta.Apply(a, d, len(b)); err != api.OK || !bytes.Equal(got, b) {
			t.Fatalf("%x, %x: %x, %v", a, b, got, err)
		}
		if got, err := delta.Apply(a, d, len(b)-1); err != api.ErrLimit || len(got) != 0 {
			t.Fatalf("above the limit: %x, %v", got, err)
		}
	}
	if got, err := delta.Apply(nil, []byte{0}, 0); err != api.OK || len(got) != 0 {
		t.Errorf("nothing out of nothing: %x, %v", got, err)
	}
}

// P3.3: bytes that are applied are the difference of what they make.
func TestAppliedIsDiff(t *testing.T) {
	rnd := rand.New(rand.NewSource(3))
	applied := 0
	for range 60000 {
		d := make([]byte, 1+rnd.Intn(9))
		for i := range d {
			d[i] = byte(rnd.Intn(7))
		}
		a := []byte{1, 2, 3}[:rnd.Intn(4)]
		b, err := delta.Apply(a, d, 100)
		if err != api.OK {
			continue
		}
		applied++
		if got := delta.Diff(a, b); !bytes.Equal(got, d) {
			t.Fatalf("%x made %x, whose difference is %x", d, b, got)
		}
	}
	if applied < 100 {
		t.Errorf("only %d were applied", applied)
	}
}

// P3.3: a text's difference from itself is its length's varint; a difference is never much longer than its text.
func TestLength(t *testing.T) {
	rnd := rand.New(rand.NewSource(4))
	for n := range 400 {
		b := make([]byte, n)
		rnd.Read(b)
		if got := delta.Diff(b, b); !bytes.Equal(got, wire.Put(nil, uint64(n))) {
			t.Fatalf("itself: %x", got)
		}
		worst := make([]byte, n)
		for i := 0; i < n; i += 5 {
			worst[i] = 1
		}
		for _, x := range [][]byte{b, worst} {
			if got := len(delta.Diff(nil, x)); got > n+2*(n/5)+12 {
				t.Fatalf("%d bytes of %d", got, n)
			}
		}
	}
}

// R3: what is handed in is not changed, and the answer is new memory.
func TestMemory(t *testing.T) {
	a, b := []byte("aaaaaaaa"), []byte("aaXaaaaaaaYa")
	d := delta.Diff(a, b)
	got, err := delta.Apply(a, d, 100)
	if err != api.OK {
		t.Fatal(err)
	}
	keep := string(d)
	for i := range got {
		got[i] = 0
	}
	if string(a) != "aaaaaaaa" || string(b) != "aaXaaaaaaaYa" || string(d) != keep {
		t.Error("an argument was changed")
	}
}
