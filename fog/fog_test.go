package fog_test

import (
	"bytes"
	"math/rand"
	"slices"
	"strings"
	"testing"

	"rematch/api"
	"rematch/fix"
	"rematch/fog"
	"rematch/rules"
	"rematch/wire"
	"rematch/world"
)

const least, most = -1 << 63, 1<<63 - 1

func begin(t *testing.T, h api.Header) world.State {
	t.Helper()
	s, err := world.Begin(h)
	if err != api.OK {
		t.Fatal(err)
	}
	return s
}

// slow is a view by the words of the chapter, with each tile asked for by itself.
func slow(s world.State, player int) []byte {
	p := s.Players[player]
	b := wire.Put(nil, uint64(s.Tick))
	b = wire.Put(b, uint64(p.Crystals))
	b = wire.Put(b, uint64(p.Tech))
	if p.Out {
		b = append(b, 1)
	} else {
		b = append(b, 0)
	}
	for tile := range s.M.Len() {
		c := byte(0)
		if s.Explored(player, tile) {
			c = s.M.Is(tile) + 1
			if s.Sees(player, tile) {
				c = s.M.Is(tile) + 4
			}
		}
		b = append(b, c)
	}
	for tile := range s.M.Len() {
		if s.M.Is(tile) == api.Crystal && s.Sees(player, tile) {
			b = wire.Put(b, uint64(s.Amounts[tile]))
		}
	}
	n := 0
	var units []byte
	for tile := range s.M.Len() {
		id, ok := s.At(tile)
		if !ok || !s.Sees(player, tile) {
			continue
		}
		n++
		u, _ := s.Units.Get(id)
		units = wire.Put(units, uint64(tile))
		units = wire.Put(units, uint64(u.Kind))
		units = wire.Put(units, uint64(u.Owner))
		units = wire.PutSigned(units, int64(u.HP))
		if int(u.Owner) == player {
			for _, x := range []int{int(id), int(u.Order), u.Goal, u.Progress, u.Carry} {
				units = wire.Put(units, uint64(x))
			}
		}
	}
	b = append(wire.Put(b, uint64(n)), units...)
	n = 0
	var bolts []byte
	w, h := s.M.Size()
	for _, x := range s.Bolts {
		column, row := int(x.At.X)>>8, int(x.At.Y)>>8
		if column < 0 || column >= w || row < 0 || row >= h || !s.Sees(player, row*w+column) {
			continue
		}
		n++
		bolts = wire.Put(bolts, uint64(x.Owner))
		bolts = wire.PutSigned(wire.PutSigned(bolts, int64(x.At.X)), int64(x.At.Y))
	}
	return append(wire.Put(b, uint64(n)), bolts...)
}

// P15.1: the example.
func TestExample(t *testing.T) {
	s := begin(t, api.Header{W: 4, H: 4, Players: 1, Seed: 1, Tiles: strings.Repeat("\x00", 16), Starts: []api.Start{{Kind: api.Base}}})
	want := "\x00\x32\x00\x00" + strings.Repeat("\x04", 15) + "\x00" + "\x01" + "\x00\x01\x00\x78\x00\x00\x00\x00\x00" + "\x00"
	if got := fog.View(s, 0); string(got) != want {
		t.Errorf("%x, want %x", got, want)
	}
	for _, player := range []int{-1, 1, 4, 256, least, most} {
		if got := fog.View(s, player); len(got) != 0 {
			t.Errorf("the player %d: %x", player, got)
		}
	}
	if got := fog.View(world.State{}, 0); len(got) != 0 {
		t.Errorf("a zero state: %x", got)
	}
}

// any makes a state with units, bolts, amounts and orders here and there.
func any(t *testing.T, rnd *rand.Rand) world.State {
	h := api.Header{W: 4 + rnd.Intn(10), H: 4 + rnd.Intn(10), Players: 2 + rnd.Intn(3), Seed: rnd.Uint32()}
	tiles := make([]byte, h.W*h.H)
	for i := range tiles {
		tiles[i] = byte(max(0, rnd.Intn(8)-5))
	}
	h.Tiles = string(tiles)
	for _, tile := range rnd.Perm(len(tiles))[:rnd.Intn(14)] {
		if tiles[tile] == api.Ground {
			h.Starts = append(h.Starts, api.Start{Owner: uint8(rnd.Intn(h.Players)), Kind: uint8(1 + rnd.Intn(5)), Tile: tile})
		}
	}
	s := begin(t, h)
	s.Tick = rnd.Intn(500)
	for i := range s.Players {
		s.Players[i].Crystals, s.Players[i].Tech, s.Players[i].Out = rnd.Intn(1000), rnd.Intn(2), rnd.Intn(2) == 0
	}
	for i := range s.Amounts[:s.M.Len()] {
		if s.Amounts[i] > 0 {
			s.Amounts[i] = uint8(rnd.Intn(101))
		}
	}
	for _, id := range s.Units.Ids() {
		u, _ := s.Units.Get(id)
		if rnd.Intn(4) == 0 { // one that comes later has a higher generation, and another slot
			s.Units = s.Units.Drop(id)
			s.Units, id, _ = s.Units.Add(u)
		}
		u.HP, u.Order, u.Goal, u.Progress, u.Carry, u.Cool = rnd.Intn(60)-5, uint8(rnd.Intn(8)), rnd.Intn(65536), rnd.Intn(256), rnd.Intn(6), rnd.Intn(9)
		if tile := rnd.Intn(s.M.Len()); s.M.Walk(tile) && rnd.Intn(2) == 0 {
			if _, busy := s.At(tile); !busy {
				u.Tile = tile
			}
		}
		s.Units = s.Units.Set(id, u)
	}
	for range rnd.Intn(9) {
		s.Bolts = append(s.Bolts, world.Bolt{Owner: uint8(rnd.Intn(h.Players)), At: fix.Point{X: fix.Num(rnd.Intn(h.W*256+300) - 150), Y: fix.Num(rnd.Intn(h.H*256+300) - 150)}, Damage: rnd.Intn(9)})
	}
	return s
}

// P15.1: of any states, the view that the words come to.
func TestAny(t *testing.T) {
	rnd := rand.New(rand.NewSource(1))
	for range 150 {
		s := any(t, rnd)
		for player := range s.Players {
			if got, want := fog.View(s, player), slow(s, player); !bytes.Equal(got, want) {
				t.Fatalf("%x, want %x", got, want)
			}
		}
	}
}

// P15.1: the edges of the map, and of what is seen, for bolts; points to the left and above belong to no tile.
func TestBolts(t *testing.T) {
	s := begin(t, api.Header{W: 6, H: 4, Players: 1, Seed: 1, Tiles: strings.Repeat("\x00", 24), Starts: []api.Start{{Kind: api.Worker, Tile: 0}}})
	empty := fog.View(s, 0)
	for _, r := range []struct {
		at  fix.Point
		see bool
	}{
		{fix.Point{X: 0, Y: 0}, true},
		{fix.Point{X: -1, Y: 0}, false},
		{fix.Point{X: 0, Y: -1}, false},
		{fix.Point{X: 4*256 - 1, Y: 255}, true},
		{fix.Point{X: 4 * 256, Y: 255}, false},
		{fix.Point{X: 3 * 256, Y: 256}, false},
		{fix.Point{X: 0, Y: 4*256 - 1}, true},
		{fix.Point{X: 0, Y: 4 * 256}, false},
		{fix.Point{X: 6 * 256, Y: 0}, false}, // the number of the next row's first tile
		{fix.Point{X: -1 << 31, Y: 1<<31 - 1}, false},
	} {
		s.Bolts = []world.Bolt{{At: r.at}}
		got := fog.View(s, 0)
		want := empty
		if r.see {
			want = wire.PutSigned(wire.PutSigned(append(bytes.Clone(empty[:len(empty)-1]), 1, 0), int64(r.at.X)), int64(r.at.Y))
		}
		if !bytes.Equal(got, want) {
			t.Errorf("%v: %x, want %x", r.at, got, want)
		}
	}
}

// blind changes all that the player does not see, and what a view may not hang on.
func blind(s world.State, player int, rnd *rand.Rand) world.State {
	x := s
	x.Rng, x.Over = rnd.Uint32(), !s.Over
	x.Players = slices.Clone(s.Players)
	for i := range x.Players {
		if i != player {
			x.Players[i].Crystals, x.Players[i].Tech, x.Players[i].Out = rnd.Intn(99), rnd.Intn(2), rnd.Intn(2) == 0
			x.Players[i].Explored[rnd.Intn(4)] ^= uint64(rnd.Intn(16))
		}
	}
	for tile := range x.M.Len() {
		if x.M.Is(tile) == api.Crystal && !s.Sees(player, tile) {
			x.Amounts[tile] = uint8(rnd.Intn(101))
		}
	}
	// Others' units go to other slots, of other generations, or away; own ones stay in theirs.
	for _, id := range s.Units.Ids() {
		u, _ := s.Units.Get(id)
		if int(u.Owner) == player {
			u.Cool, u.Steps, u.Way = rnd.Intn(9), uint8(rnd.Intn(2)), [8]uint16{uint16(rnd.Intn(9))}
			x.Units = x.Units.Set(id, u)
			continue
		}
		x.Units = x.Units.Drop(id)
		if s.Sees(player, u.Tile) {
			u.Order, u.Goal, u.Progress, u.Carry, u.Cool = uint8(rnd.Intn(8)), rnd.Intn(99), rnd.Intn(9), rnd.Intn(6), rnd.Intn(9)
			x.Units, _, _ = x.Units.Add(u)
		}
	}
	for tile := range x.M.Len() {
		if !s.Sees(player, tile) && rnd.Intn(4) == 0 && x.M.Walk(tile) {
			other := (player + 1) % len(s.Players)
			x.Units, _, _ = x.Units.Add(world.Unit{Kind: uint8(1 + rnd.Intn(5)), Owner: uint8(other), Tile: tile, HP: 5})
		}
	}
	x.Bolts = nil
	w, h := s.M.Size()
	for _, b := range s.Bolts {
		column, row := int(b.At.X)>>8, int(b.At.Y)>>8
		if column >= 0 && column < w && row >= 0 && row < h && s.Sees(player, row*w+column) {
			b.Damage, b.Target, b.Tile = rnd.Intn(99), uint16(rnd.Intn(99)), rnd.Intn(9)
			x.Bolts = append(x.Bolts, b)
		}
		for tile := range x.M.Len() {
			if !s.Sees(player, tile) && rnd.Intn(9) == 0 {
				x.Bolts = append(x.Bolts, world.Bolt{At: fix.Middle(tile%w, tile/w)})
			}
		}
	}
	return x
}

// P15.2: a view hangs on nothing that the player does not see.
func TestBlind(t *testing.T) {
	rnd := rand.New(rand.NewSource(2))
	for range 100 {
		s := any(t, rnd)
		for player := range s.Players {
			x := blind(s, player, rnd)
			if got, want := fog.View(x, player), fog.View(s, player); !bytes.Equal(got, want) {
				t.Fatalf("%x, want %x", got, want)
			}
		}
	}
}

// P15.1: what is seen, but was not explored, is shown as unknown ground, with who stands on it.
func TestNotExplored(t *testing.T) {
	s := begin(t, api.Header{W: 4, H: 4, Players: 1, Seed: 1, Tiles: strings.Repeat("\x00", 15) + "\x02", Starts: []api.Start{{Kind: api.Worker, Tile: 14}}})
	s.Players[0].Explored = [api.MaxSide]uint64{3: 8}
	want := "\x00\x32\x00\x00" + strings.Repeat("\x00", 15) + "\x06" + "\x64" + "\x01" + "\x0e\x02\x00\x14\x00\x00\x00\x00\x00" + "\x00"
	if got := fog.View(s, 0); string(got) != want {
		t.Errorf("%x, want %x", got, want)
	}
}

// R3: the state stays as it was.
func TestLeaves(t *testing.T) {
	s := any(t, rand.New(rand.NewSource(3)))
	was := slices.Clone(s.Players)
	one := fog.View(s, 0)
	clear(one)
	if !slices.Equal(s.Players, was) || bytes.Equal(fog.View(s, 0), one) || rules.First != 50 {
		t.Error("a view is kept, or the state was changed")
	}
}
