package grid_test

import (
	"math/rand"
	"slices"
	"strings"
	"testing"

	"rematch/api"
	"rematch/grid"
)

const least, most = -1 << 63, 1<<63 - 1

func plain(t *testing.T, w, h int) grid.Map {
	t.Helper()
	m, err := grid.New(w, h, strings.Repeat("\x00", w*h))
	if err != api.OK {
		t.Fatal(err)
	}
	return m
}

// P7.1: which sides and tiles are a map.
func TestNew(t *testing.T) {
	for _, r := range []struct {
		w, h  int
		tiles string
		want  api.Errno
	}{
		{4, 4, strings.Repeat("\x00", 16), api.OK},
		{64, 64, strings.Repeat("\x01", 4096), api.OK},
		{4, 64, strings.Repeat("\x02", 256), api.OK},
		{3, 4, strings.Repeat("\x00", 12), api.ErrArg},
		{4, 3, strings.Repeat("\x00", 12), api.ErrArg},
		{65, 4, strings.Repeat("\x00", 260), api.ErrArg},
		{4, 65, strings.Repeat("\x00", 260), api.ErrArg},
		{4, 4, strings.Repeat("\x00", 15), api.ErrArg},
		{4, 4, strings.Repeat("\x00", 17), api.ErrArg},
		{4, 4, strings.Repeat("\x00", 15) + "\x03", api.ErrArg},
		{4, 4, "\xff" + strings.Repeat("\x00", 15), api.ErrArg},
		{0, 0, "", api.ErrArg},
		{-4, -4, strings.Repeat("\x00", 16), api.ErrArg},
		{1 << 32, 1 << 32, "", api.ErrArg},
		{least, most, "", api.ErrArg},
	} {
		m, err := grid.New(r.w, r.h, r.tiles)
		w, h := m.Size()
		if err != r.want {
			t.Errorf("%d x %d: %v", r.w, r.h, err)
		}
		if err == api.OK && (w != r.w || h != r.h || m.Len() != w*h) {
			t.Errorf("%d x %d: its sides are %d, %d", r.w, r.h, w, h)
		}
		if err != api.OK && m != (grid.Map{}) {
			t.Errorf("%d x %d: a map beside an error", r.w, r.h)
		}
	}
}

// Maps are compared as they are.
func TestCompared(t *testing.T) {
	a, b := plain(t, 4, 8), plain(t, 4, 8)
	c, _ := grid.New(4, 8, strings.Repeat("\x00", 31)+"\x01")
	if a != b || a == c || a == plain(t, 8, 4) || a == (grid.Map{}) {
		t.Error("maps are not compared as they are")
	}
}

// P7.2: what a tile is, whether it is on the map, ground, and where.
func TestTiles(t *testing.T) {
	m, err := grid.New(5, 4, "\x00\x01\x02\x00\x00"+strings.Repeat("\x00", 14)+"\x02")
	if err != api.OK {
		t.Fatal(err)
	}
	for tile, want := range map[int]uint8{0: api.Ground, 1: api.Rock, 2: api.Crystal, 18: api.Ground, 19: api.Crystal} {
		x, y := m.XY(tile)
		if m.Is(tile) != want || !m.On(tile) || m.Walk(tile) != (want == api.Ground) || x != tile%5 || y != tile/5 {
			t.Errorf("%d: %d, %d, %d", tile, m.Is(tile), x, y)
		}
	}
	for _, tile := range []int{-1, 20, least, most} {
		for _, m := range []grid.Map{m, {}} {
			x, y := m.XY(tile)
			if m.Is(tile) != api.Rock || m.On(tile) || m.Walk(tile) || x != -1 || y != -1 {
				t.Errorf("%d is on the map", tile)
			}
		}
	}
}

// P7.3: the example, the corners, and tiles that are not on the map.
func TestNextFarAround(t *testing.T) {
	m := plain(t, 4, 4)
	if got := m.Next(0); !slices.Equal(got, []int{1, 4}) {
		t.Errorf("Next(0): %v", got)
	}
	if got := m.Next(5); !slices.Equal(got, []int{1, 6, 9, 4}) {
		t.Errorf("Next(5): %v", got)
	}
	if got := m.Next(15); !slices.Equal(got, []int{11, 14}) {
		t.Errorf("Next(15): %v", got)
	}
	if m.Far(0, 15) != 6 || m.Far(3, 4) != 4 || m.Far(7, 7) != 0 {
		t.Error("Far")
	}
	if got := m.Around(5, 1); !slices.Equal(got, []int{1, 4, 5, 6, 9}) {
		t.Errorf("Around(5, 1): %v", got)
	}
	if got := m.Around(5, 0); !slices.Equal(got, []int{5}) {
		t.Errorf("Around(5, 0): %v", got)
	}
	if len(m.Around(5, most)) != 16 || len(m.Around(5, -1)) != 0 || len(m.Around(5, least)) != 0 {
		t.Error("Around at the ends of numbers")
	}
	for _, tile := range []int{-1, 16, least, most} {
		if len(m.Next(tile)) != 0 || m.Far(tile, 0) != -1 || m.Far(0, tile) != -1 || m.Far(tile, tile) != -1 || len(m.Around(tile, 9)) != 0 {
			t.Errorf("%d is on the map", tile)
		}
	}
	var zero grid.Map
	if len(zero.Next(0)) != 0 || zero.Far(0, 0) != -1 || len(zero.Around(0, 3)) != 0 {
		t.Error("a zero map has tiles")
	}
}

// P7.4: the distance is the least number of steps; Around are just those that are not farther, rising.
func TestDistance(t *testing.T) {
	rnd := rand.New(rand.NewSource(1))
	for range 60 {
		m := plain(t, 4+rnd.Intn(12), 4+rnd.Intn(12))
		from := rnd.Intn(m.Len())
		steps := map[int]int{from: 0}
		for row := []int{from}; len(row) > 0; row = row[1:] {
			for _, n := range m.Next(row[0]) {
				if _, ok := steps[n]; !ok {
					steps[n] = steps[row[0]] + 1
					row = append(row, n)
				}
			}
		}
		far := rnd.Intn(8)
		var want []int
		for tile := range m.Len() {
			if m.Far(from, tile) != steps[tile] || m.Far(tile, from) != steps[tile] {
				t.Fatalf("from %d to %d: %d, want %d", from, tile, m.Far(from, tile), steps[tile])
			}
			if steps[tile] <= far {
				want = append(want, tile)
			}
		}
		if got := m.Around(from, far); !slices.Equal(got, want) {
			t.Fatalf("Around(%d, %d): %v, want %v", from, far, got, want)
		}
	}
}

// R3: what is handed out is new memory.
func TestNewMemory(t *testing.T) {
	m := plain(t, 4, 4)
	m.Next(5)[0], m.Around(5, 1)[0] = 99, 99
	if m.Next(5)[0] != 1 || m.Around(5, 1)[0] != 1 {
		t.Error("an answer is kept")
	}
}
