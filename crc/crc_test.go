package crc_test

import (
	"math/rand"
	"testing"

	"rematch/crc"
)

// slow is the checksum bit by bit, as the chapter's words tell it.
func slow(b []byte) uint32 {
	n := uint32(1<<32 - 1)
	for _, c := range b {
		for i := range 8 {
			bit := (n + uint32(c>>i)) % 2
			n /= 2
			if bit == 1 {
				n ^= 0xedb88320
			}
		}
	}
	return ^n
}

func noise(rnd *rand.Rand, n int) []byte {
	b := make([]byte, n)
	rnd.Read(b)
	return b
}

// P2.1: the checksum of bytes.
func TestSum(t *testing.T) {
	for s, want := range map[string]uint32{"": 0, "123456789": 0xcbf43926, "a": 0xe8b7be43} {
		if got := crc.Sum([]byte(s)); got != want {
			t.Errorf("%q: %08x, want %08x", s, got, want)
		}
	}
	if crc.Sum(nil) != 0 || crc.More(0, nil) != 0 || crc.More(77, nil) != 77 {
		t.Error("no bytes change a checksum")
	}
	for i := range 256 {
		if b := []byte{byte(i)}; crc.Sum(b) != slow(b) {
			t.Errorf("the byte %02x", i)
		}
	}
	rnd := rand.New(rand.NewSource(1))
	for range 300 {
		if b := noise(rnd, rnd.Intn(200)); crc.Sum(b) != slow(b) {
			t.Fatalf("%x", b)
		}
	}
}

// P2.1, P2.2: however bytes are cut, More tells their one checksum.
func TestMore(t *testing.T) {
	rnd := rand.New(rand.NewSource(2))
	for range 100 {
		b := noise(rnd, 60)
		want := slow(b)
		for cut := range len(b) + 1 {
			if got := crc.More(crc.Sum(b[:cut]), b[cut:]); got != want {
				t.Fatalf("cut at %d: %08x, want %08x", cut, got, want)
			}
		}
		sum := uint32(0)
		for i := range b {
			sum = crc.More(sum, b[i:i+1])
		}
		if sum != want {
			t.Fatalf("byte by byte: %08x, want %08x", sum, want)
		}
	}
}

// P2.2: texts of one length that differ in one byte, or within four in a row, have unlike checksums.
func TestUnlike(t *testing.T) {
	rnd := rand.New(rand.NewSource(3))
	for range 30 {
		b := noise(rnd, 1+rnd.Intn(80))
		sum := crc.Sum(b)
		at := rnd.Intn(len(b))
		for x := 1; x < 256; x++ {
			b[at] ^= byte(x)
			if crc.Sum(b) == sum {
				t.Fatalf("byte %d changed by %02x", at, x)
			}
			b[at] ^= byte(x)
		}
	}
	for range 20000 {
		b := noise(rnd, 4+rnd.Intn(60))
		sum := crc.Sum(b)
		at := rnd.Intn(len(b) - 3)
		b[at] ^= byte(1 + rnd.Intn(255))
		for i := 1; i < 4; i++ {
			b[at+i] ^= byte(rnd.Intn(256))
		}
		if crc.Sum(b) == sum {
			t.Fatalf("four bytes changed at %d", at)
		}
	}
}

// R3: what is handed in is not changed.
func TestLeaves(t *testing.T) {
	b := []byte("unchanged")
	crc.Sum(b)
	crc.More(5, b[:3])
	if string(b) != "unchanged" {
		t.Errorf("%q", b)
	}
}
