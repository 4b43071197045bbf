package world_test

import (
	"math/rand"
	"slices"
	"strings"
	"testing"

	"rematch/api"
	"rematch/rng"
	"rematch/rules"
	"rematch/world"
)

const least, most = -1 << 63, 1<<63 - 1

// plain is a header of ground, with these units at first.
func plain(w, h, players int, starts ...api.Start) api.Header {
	return api.Header{W: w, H: h, Players: players, Seed: 7, Tiles: strings.Repeat("\x00", w*h), Starts: starts}
}

func begin(t *testing.T, h api.Header) world.State {
	t.Helper()
	s, err := world.Begin(h)
	if err != api.OK {
		t.Fatal(err)
	}
	return s
}

// random is a header that may be.
func random(rnd *rand.Rand) api.Header {
	h := plain(4+rnd.Intn(12), 4+rnd.Intn(12), 1+rnd.Intn(4))
	tiles := []byte(h.Tiles)
	for i := range tiles {
		tiles[i] = byte(max(0, rnd.Intn(8)-5))
	}
	h.Tiles = string(tiles)
	for _, tile := range rnd.Perm(len(tiles))[:rnd.Intn(12)] {
		if tiles[tile] == api.Ground {
			h.Starts = append(h.Starts, api.Start{Owner: uint8(rnd.Intn(h.Players)), Kind: uint8(1 + rnd.Intn(5)), Tile: tile})
		}
	}
	return h
}

// zero tells whether a state is a zero one.
func zero(s world.State) bool {
	return s.M.Len() == 0 && s.Tick == 0 && s.Rng == 0 && !s.Over && s.Amounts == world.State{}.Amounts && len(s.Players) == 0 && s.Units == world.State{}.Units && len(s.Bolts) == 0
}

// P11.1: which headers may be.
func TestMay(t *testing.T) {
	base := func(owner, kind uint8, tile int) api.Start { return api.Start{Owner: owner, Kind: kind, Tile: tile} }
	good := plain(5, 4, 2, base(0, api.Base, 0), base(1, api.Barracks, 19))
	row := func(n int) api.Header {
		h := plain(64, 64, 4)
		for i := range n {
			h.Starts = append(h.Starts, base(uint8(i%4), uint8(1+i%5), i*3))
		}
		return h
	}
	change := func(f func(h *api.Header)) api.Header {
		h := good
		h.Starts = slices.Clone(good.Starts)
		f(&h)
		return h
	}
	rows := []struct {
		name string
		h    api.Header
		want bool
	}{
		{"good", good, true},
		{"no units", plain(4, 4, 1), true},
		{"four players", plain(64, 4, 4), true},
		{"128 units", row(128), true},
		{"129 units", row(129), false},
		{"zero", api.Header{}, false},
		{"a side of 3", plain(3, 4, 1), false},
		{"a side of 65", plain(65, 4, 1), false},
		{"too few tiles", change(func(h *api.Header) { h.Tiles = h.Tiles[1:] }), false},
		{"a tile that is none", change(func(h *api.Header) { h.Tiles = h.Tiles[:19] + "\x03" }), false},
		{"no players", change(func(h *api.Header) { h.Players = 0 }), false},
		{"players below 0", change(func(h *api.Header) { h.Players = least }), false},
		{"five players", change(func(h *api.Header) { h.Players = 5 }), false},
		{"an owner that is not there", change(func(h *api.Header) { h.Starts[1].Owner = 2 }), false},
		{"the owner 255", change(func(h *api.Header) { h.Starts[1].Owner = 255 }), false},
		{"the kind 0", change(func(h *api.Header) { h.Starts[1].Kind = 0 }), false},
		{"the kind 6", change(func(h *api.Header) { h.Starts[1].Kind = 6 }), false},
		{"a tile behind the map", change(func(h *api.Header) { h.Starts[1].Tile = 20 }), false},
		{"a tile below 0", change(func(h *api.Header) { h.Starts[1].Tile = -1 }), false},
		{"a tile far off", change(func(h *api.Header) { h.Starts[1].Tile = most }), false},
		{"a rock", change(func(h *api.Header) { h.Tiles = "\x01" + h.Tiles[1:] }), false},
		{"a crystal", change(func(h *api.Header) { h.Tiles = "\x02" + h.Tiles[1:] }), false},
		{"one tile twice", change(func(h *api.Header) { h.Starts[1].Tile = 0 }), false},
	}
	for _, r := range rows {
		s, err := world.Begin(r.h)
		if world.May(r.h) != r.want || (err == api.OK) != r.want || !r.want && (err != api.ErrArg || !zero(s)) {
			t.Errorf("%s: %v, %v", r.name, world.May(r.h), err)
		}
	}
}

// P11.1: the state at first.
func TestBegin(t *testing.T) {
	rnd := rand.New(rand.NewSource(1))
	for range 100 {
		h := random(rnd)
		h.Seed = uint32(rnd.Intn(3))
		s := begin(t, h)
		w, hh := s.M.Size()
		if w != h.W || hh != h.H || s.Tick != 0 || s.Rng != rng.Seed(h.Seed) || s.Over || len(s.Bolts) != 0 || len(s.Players) != h.Players {
			t.Fatalf("%+v", s)
		}
		for tile, a := range s.Amounts {
			want := uint8(0)
			if tile < len(h.Tiles) && h.Tiles[tile] == api.Crystal {
				want = rules.Amount
			}
			if a != want {
				t.Fatalf("the tile %d has %d", tile, a)
			}
		}
		ids := s.Units.Ids()
		if len(ids) != len(h.Starts) {
			t.Fatalf("%d units", len(ids))
		}
		for i, id := range ids {
			u, _ := s.Units.Get(id)
			r, _ := rules.Of(h.Starts[i].Kind)
			if int(id) != i || u != (world.Unit{Kind: h.Starts[i].Kind, Owner: h.Starts[i].Owner, Tile: h.Starts[i].Tile, HP: r.HP}) {
				t.Fatalf("the unit %d: %+v", id, u)
			}
		}
		for i, p := range s.Players {
			var explored [api.MaxSide]uint64
			for _, tile := range s.Seen(i) {
				explored[tile/h.W] |= 1 << (tile % h.W)
			}
			if p != (world.Player{Crystals: rules.First, Explored: explored}) {
				t.Fatalf("the player %d: %+v", i, p)
			}
		}
	}
}

// P11.2: the unit on a tile; how many units a player has.
func TestAtCount(t *testing.T) {
	s := begin(t, plain(5, 5, 3, api.Start{Owner: 0, Kind: api.Soldier, Tile: 0}, api.Start{Owner: 2, Kind: api.Base, Tile: 24}, api.Start{Owner: 2, Kind: api.Worker, Tile: 7}))
	for tile, want := range map[int]uint16{0: 0, 24: 1, 7: 2} {
		if id, ok := s.At(tile); id != want || !ok {
			t.Errorf("on %d: %d, %v", tile, id, ok)
		}
	}
	for _, tile := range []int{1, 23, 25, -1, least, most} {
		if id, ok := s.At(tile); id != 0 || ok {
			t.Errorf("on %d: %d, %v", tile, id, ok)
		}
	}
	s.Units = s.Units.Drop(1)
	for player, want := range map[int]int{0: 1, 1: 0, 2: 1, 3: 0, -1: 0, 256: 0, most: 0, least: 0} {
		if got := s.Count(player); got != want {
			t.Errorf("the player %d has %d", player, got)
		}
	}
	if id, ok := s.At(24); id != 0 || ok {
		t.Error("one that was taken away is there")
	}
	s.Units, _, _ = s.Units.Add(world.Unit{Tile: 9})
	if id, ok := s.At(9); id != 129 || !ok {
		t.Errorf("on 9: %d, %v", id, ok)
	}
}

// P11.3: the example, and what there is not.
func TestSees(t *testing.T) {
	s := begin(t, plain(5, 5, 1, api.Start{Owner: 0, Kind: api.Soldier, Tile: 0}))
	if !s.Sees(0, 4) || s.Sees(0, 9) || s.Count(0) != 1 {
		t.Error("the example")
	}
	for _, r := range [][2]int{{1, 0}, {-1, 0}, {256, 0}, {0, -1}, {0, 25}, {0, most}, {least, least}} {
		if s.Sees(r[0], r[1]) || s.Explored(r[0], r[1]) {
			t.Errorf("the player %d sees %d", r[0], r[1])
		}
	}
	for _, player := range []int{-1, 1, 256, least, most} {
		if len(s.Seen(player)) != 0 {
			t.Errorf("the player %d sees", player)
		}
	}
	var none world.State
	if none.Sees(0, 0) || none.Explored(0, 0) || len(none.Seen(0)) != 0 || none.Count(0) != 0 || !zero(none.Explore()) {
		t.Error("a zero state")
	}
	if _, ok := none.At(0); ok {
		t.Error("a unit in a zero state")
	}
}

// P11.3: what is seen, of any states, tile by tile.
func TestSeen(t *testing.T) {
	rnd := rand.New(rand.NewSource(2))
	for range 60 {
		h := random(rnd)
		s := begin(t, h)
		for player := range h.Players {
			var want []int
			for tile := range s.M.Len() {
				sees := false
				for _, u := range h.Starts {
					r, _ := rules.Of(u.Kind)
					far := abs(tile%h.W-u.Tile%h.W) + abs(tile/h.W-u.Tile/h.W)
					sees = sees || int(u.Owner) == player && far <= r.Sight
				}
				if sees {
					want = append(want, tile)
				}
				if s.Sees(player, tile) != sees || s.Explored(player, tile) != sees {
					t.Fatalf("player %d, tile %d: %v", player, tile, !sees)
				}
			}
			if got := s.Seen(player); !slices.Equal(got, want) {
				t.Fatalf("player %d: %v, want %v", player, got, want)
			}
		}
	}
}

func abs(n int) int { return max(n, -n) }

// P11.3, P11.4: what was explored stays so, what is seen is explored, too, and nothing else changes.
func TestExplore(t *testing.T) {
	rnd := rand.New(rand.NewSource(3))
	for range 60 {
		h := random(rnd)
		s := begin(t, h)
		for _, id := range s.Units.Ids() {
			u, _ := s.Units.Get(id)
			if !s.Sees(int(u.Owner), u.Tile) {
				t.Fatal("a unit's own tile is not seen")
			}
			u.Tile = rnd.Intn(s.M.Len())
			s.Units = s.Units.Set(id, u)
		}
		s.Bolts = []world.Bolt{{Damage: 3}}
		e := s.Explore()
		for player := range h.Players {
			for tile := range s.M.Len() {
				if e.Explored(player, tile) != (s.Explored(player, tile) || s.Sees(player, tile)) {
					t.Fatalf("player %d, tile %d", player, tile)
				}
			}
		}
		again := e.Explore()
		if !slices.Equal(again.Players, e.Players) || again.Units != s.Units || again.Tick != s.Tick || again.Amounts != s.Amounts || again.M != s.M || !slices.Equal(again.Bolts, s.Bolts) {
			t.Fatal("explored again, it is another one")
		}
	}
}

// P11.3: the widest map, the last bit of a row.
func TestWide(t *testing.T) {
	s := begin(t, plain(64, 64, 1, api.Start{Owner: 0, Kind: api.Base, Tile: 4095}))
	if world.Ahead != 8 {
		t.Error("Ahead")
	}
	if !s.Explored(0, 4095) || s.Players[0].Explored[63]>>58 != 63 || s.Players[0].Explored[57] != 0 || s.Players[0].Explored[58] != 1<<63 {
		t.Errorf("%x", s.Players[0].Explored[56:])
	}
}

// R3: a state shares nothing that may be written to with the one from before, or with what was handed in.
func TestMemory(t *testing.T) {
	h := plain(5, 5, 2, api.Start{Owner: 0, Kind: api.Soldier, Tile: 0})
	s := begin(t, h)
	s.Bolts = []world.Bolt{{Damage: 1}}
	e := s.Explore()
	e.Players[0].Crystals, e.Bolts[0].Damage, e.Players[1].Explored[0] = 99, 99, 99
	if s.Players[0].Crystals != rules.First || s.Bolts[0].Damage != 1 || s.Players[1].Explored[0] != 0 {
		t.Error("states share memory")
	}
	h.Starts[0].Tile = 3
	if _, ok := s.At(0); !ok {
		t.Error("the header is kept")
	}
	u := s
	u.Units = u.Units.Drop(0)
	_ = u.Explore()
	if s.Count(0) != 1 {
		t.Error("units are shared")
	}
}
