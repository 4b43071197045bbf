package rng_test

import (
	"math/rand"
	"testing"

	"rematch/rng"
)

// slow is the next state with the shifts as multiplications and divisions.
func slow(s uint32) uint32 {
	s ^= uint32(uint64(s) * (1 << 13) % (1 << 32))
	s ^= s / (1 << 17)
	s ^= uint32(uint64(s) * (1 << 5) % (1 << 32))
	return s
}

// P6.1: the first state, and the next one.
func TestSeedNext(t *testing.T) {
	if rng.Seed(0) != 0x9e3779b9 || rng.Seed(1) != 1 || rng.Seed(1<<32-1) != 1<<32-1 {
		t.Error("Seed")
	}
	if rng.Next(1) != 270369 || rng.Next(0) != rng.Next(0x9e3779b9) {
		t.Error("Next of 1, or of 0")
	}
	rnd := rand.New(rand.NewSource(1))
	for range 5000 {
		s := rng.Seed(rnd.Uint32() >> rnd.Intn(32))
		if got := rng.Next(s); got != slow(s) {
			t.Fatalf("Next(%d): %d, want %d", s, got, slow(s))
		}
	}
	s := uint32(1)
	for range 4 {
		s = rng.Next(s)
	}
	if s != 307599695 {
		t.Errorf("the fourth state behind 1: %d", s)
	}
}

// P6.2: a number below another one.
func TestBelow(t *testing.T) {
	for _, r := range []struct {
		s    uint32
		n    int
		want int
	}{
		{255, 9, 0}, {256, 9, 1}, {0xffffffff, 1 << 24, 1<<24 - 1}, {0xffffffff, 1<<63 - 1, 1<<24 - 1}, {0x0a0000ff, 7, 0x0a0000 % 7},
		{0x12345678, 1, 0}, {0x12345678, 0, 0}, {0x12345678, -3, 0}, {0x12345678, -1 << 63, 0}, {0, 5, 0}, {0x100, 2, 1}, {0x200, 2, 0},
	} {
		if got := rng.Below(r.s, r.n); got != r.want {
			t.Errorf("Below(%x, %d): %d, want %d", r.s, r.n, got, r.want)
		}
	}
}

// P6.3: no state is followed by 0; unlike states are followed by unlike ones.
func TestUnlike(t *testing.T) {
	seen := map[uint32]uint32{}
	rnd := rand.New(rand.NewSource(2))
	for i := range 200000 {
		s := uint32(i + 1)
		if i%2 == 1 {
			s = rnd.Uint32() | 1<<31
		}
		n := rng.Next(s)
		if was, ok := seen[n]; n == 0 || ok && was != s {
			t.Fatalf("%d is followed by %d, as %d is", s, n, was)
		}
		seen[n] = s
	}
	// Each of the 32 shifted bits has its own follower, and no sum of them is 0: so it is of all states.
	var rows []uint32
	for i := range 32 {
		rows = append(rows, rng.Next(1<<i))
	}
	for i := range rows {
		at := -1
		for j := i; j < 32; j++ {
			if rows[j]&(1<<i) != 0 {
				at = j
				break
			}
		}
		if at < 0 {
			t.Fatal("followers are not independent")
		}
		rows[i], rows[at] = rows[at], rows[i]
		for j := range rows {
			if j != i && rows[j]&(1<<i) != 0 {
				rows[j] ^= rows[i]
			}
		}
	}
}
