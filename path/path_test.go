package path_test

import (
	"math/rand"
	"slices"
	"strings"
	"testing"

	"rematch/api"
	"rematch/grid"
	"rematch/path"
)

// slow looks for a way as the chapter's words tell it: all open tiles are looked through each time.
func slow(m grid.Map, busy func(int) bool, from, to, near, nodes int) ([]int, bool) {
	g := map[int]int{from: 0}
	by := map[int]int{}
	open := map[int]bool{from: true}
	h := func(tile int) int { return max(0, m.Far(tile, to)-near) }
	for taken := 0; len(open) > 0 && taken < nodes; taken++ {
		at := -1
		for tile := range open {
			if at < 0 || slices.Compare([]int{g[tile] + h(tile), h(tile), tile}, []int{g[at] + h(at), h(at), at}) < 0 {
				at = tile
			}
		}
		delete(open, at)
		if h(at) == 0 {
			var way []int
			for ; at != from; at = by[at] {
				way = append([]int{at}, way...)
			}
			return way, true
		}
		for _, n := range m.Next(at) {
			was, known := g[n]
			if m.Is(n) == api.Ground && !busy(n) && (!known || was > g[at]+1) {
				g[n], by[n], open[n] = g[at]+1, at, true
			}
		}
	}
	return nil, false
}

// least is how many steps the shortest way has, -1 if there is none.
func least(m grid.Map, busy func(int) bool, from, to, near int) int {
	steps := map[int]int{from: 0}
	for row := []int{from}; len(row) > 0; row = row[1:] {
		if m.Far(row[0], to) <= near {
			return steps[row[0]]
		}
		for _, n := range m.Next(row[0]) {
			if _, ok := steps[n]; !ok && m.Walk(n) && !busy(n) {
				steps[n] = steps[row[0]] + 1
				row = append(row, n)
			}
		}
	}
	return -1
}

func build(t *testing.T, w, h int, tiles string) grid.Map {
	t.Helper()
	m, err := grid.New(w, h, tiles)
	if err != api.OK {
		t.Fatal(err)
	}
	return m
}

func none(int) bool { return false }

// P10.1: the example; near; where it stands already; a nil busy.
func TestFind(t *testing.T) {
	m := build(t, 4, 4, strings.Repeat("\x00", 16))
	one := func(tile int) bool { return tile == 1 }
	for _, r := range []struct {
		name           string
		busy           func(int) bool
		from, to, near int
		want           []int
		ok             bool
	}{
		{"example", one, 0, 2, 0, []int{4, 5, 6, 2}, true},
		{"nobody busy", nil, 0, 2, 0, []int{1, 2}, true},
		{"near 1", one, 0, 2, 1, []int{4, 5, 6}, true},
		{"there", one, 0, 0, 0, nil, true},
		{"near already", one, 0, 2, 2, nil, true},
		{"near beyond all", one, 0, 15, 1<<63 - 1, nil, true},
		{"the goal busy", one, 0, 1, 0, nil, false},
		{"the goal busy, near 1", one, 2, 1, 1, nil, true},
		{"the first tile busy", func(tile int) bool { return tile == 0 }, 0, 3, 0, []int{1, 2, 3}, true},
		{"all busy", func(int) bool { return true }, 0, 3, 0, nil, false},
		{"near below 0", nil, 0, 3, -1, nil, false},
		{"near below 0, there", nil, 0, 0, -1, nil, false},
		{"from nowhere", nil, -1, 3, 0, nil, false},
		{"to nowhere", nil, 0, 16, 0, nil, false},
		{"to nowhere, near", nil, 0, 16, 99, nil, false},
		{"far nowhere", nil, -1 << 63, 1<<63 - 1, 0, nil, false},
	} {
		got, ok := path.Find(m, r.busy, r.from, r.to, r.near)
		if !slices.Equal(got, r.want) || ok != r.ok {
			t.Errorf("%s: %v, %v, want %v, %v", r.name, got, ok, r.want, r.ok)
		}
	}
	if got, ok := path.Find(grid.Map{}, nil, 0, 0, 0); ok || len(got) != 0 {
		t.Error("a way on a zero map")
	}
}

// P10.1: Crystal and Rock are not walked on, but may be gone near to, and from.
func TestTiles(t *testing.T) {
	m := build(t, 4, 4, "\x00\x02\x00\x00"+"\x00\x01\x00\x00"+strings.Repeat("\x00", 8))
	if got, ok := path.Find(m, nil, 0, 2, 0); !ok || !slices.Equal(got, []int{4, 8, 9, 10, 6, 2}) {
		t.Errorf("around: %v, %v", got, ok)
	}
	if got, ok := path.Find(m, nil, 12, 1, 1); !ok || !slices.Equal(got, []int{8, 4, 0}) {
		t.Errorf("near a crystal: %v, %v", got, ok)
	}
	if got, ok := path.Find(m, nil, 12, 5, 0); ok || len(got) != 0 {
		t.Errorf("onto a rock: %v, %v", got, ok)
	}
	if got, ok := path.Find(m, nil, 5, 4, 0); !ok || !slices.Equal(got, []int{4}) {
		t.Errorf("from a rock: %v, %v", got, ok)
	}
}

// P10.1, P10.2: of random maps, just the way that the words come to; and it is a shortest one.
func TestAny(t *testing.T) {
	rnd := rand.New(rand.NewSource(1))
	for range 1500 {
		w, h := 4+rnd.Intn(10), 4+rnd.Intn(10)
		tiles := make([]byte, w*h)
		taken := map[int]bool{}
		rocks, units := rnd.Intn(5), rnd.Intn(4)
		for i := range tiles {
			if rnd.Intn(10) < rocks {
				tiles[i] = byte(1 + rnd.Intn(2))
			}
			taken[i] = rnd.Intn(10) < units
		}
		m := build(t, w, h, string(tiles))
		busy := func(tile int) bool { return taken[tile] }
		from, to, near := rnd.Intn(w*h), rnd.Intn(w*h), rnd.Intn(3)
		got, ok := path.Find(m, busy, from, to, near)
		want, there := slow(m, busy, from, to, near, path.Nodes)
		if ok != there || !slices.Equal(got, want) {
			t.Fatalf("%d x %d from %d to %d near %d: %v, %v, want %v, %v", w, h, from, to, near, got, ok, want, there)
		}
		steps := least(m, busy, from, to, near)
		if ok != (steps >= 0) || ok && len(got) != steps {
			t.Fatalf("%d steps, the least are %d", len(got), steps)
		}
	}
}

// snake is a map with one road that goes to and fro, and the road.
func snake(t *testing.T) (grid.Map, []int) {
	tiles := []byte(strings.Repeat("\x01", 64*64))
	var road []int
	for y := 0; y < 64; y += 2 {
		for i := range 64 {
			x := i
			if y%4 == 2 {
				x = 63 - i
			}
			road = append(road, y*64+x)
		}
		if y < 62 {
			road = append(road, (y+1)*64+road[len(road)-1]%64)
		}
	}
	for _, tile := range road {
		tiles[tile] = api.Ground
	}
	return build(t, 64, 64, string(tiles)), road
}

// P10.1, P10.2: the last of Nodes may be the goal; behind that there is no way.
func TestNodes(t *testing.T) {
	m, road := snake(t)
	for steps, want := range map[int]bool{1: true, 598: true, 599: true, 600: false, 601: false, 2000: false} {
		got, ok := path.Find(m, nil, road[0], road[steps], 0)
		if ok != want || ok && !slices.Equal(got, road[1:steps+1]) || !ok && len(got) != 0 {
			t.Errorf("%d steps: %d, %v", steps, len(got), ok)
		}
	}
	if _, ok := path.Find(m, nil, road[0], road[600], 1); !ok {
		t.Error("near 1 there are 599 steps")
	}
}

// P10.1: on great maps, where tiles are come to by fewer steps later on, and what was open before does not count as taken.
func TestGreat(t *testing.T) {
	limited := 0
	for _, seed := range append([]int64{43, 135, 210, 232, 283, 322, 459, 528}, rand.New(rand.NewSource(2)).Int63(), 1, 2, 3, 4, 5, 6, 7, 8, 9) {
		rnd := rand.New(rand.NewSource(seed))
		tiles := make([]byte, 64*64)
		rocks := 20 + rnd.Intn(25)
		for i := range tiles {
			if rnd.Intn(100) < rocks {
				tiles[i] = api.Rock
			}
		}
		m := build(t, 64, 64, string(tiles))
		from, to := rnd.Intn(4096), rnd.Intn(4096)
		got, ok := path.Find(m, nil, from, to, 1)
		want, there := slow(m, none, from, to, 1, path.Nodes)
		if ok != there || !slices.Equal(got, want) {
			t.Fatalf("seed %d, from %d to %d: %v, %v, want %v, %v", seed, from, to, got, ok, want, there)
		}
		if _, far := slow(m, none, from, to, 1, 550); ok && !far {
			limited++
		}
	}
	if limited < 4 {
		t.Errorf("only %d ways take nearly all of Nodes", limited)
	}
}
