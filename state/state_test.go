package state_test

import (
	"bytes"
	"math/rand"
	"slices"
	"strings"
	"testing"

	"rematch/api"
	"rematch/arena"
	"rematch/fix"
	"rematch/grid"
	"rematch/state"
	"rematch/tick"
	"rematch/wire"
	"rematch/world"
)

const least, most = -1 << 63, 1<<63 - 1

// drawn is a header of a map that is drawn: '.' Ground, '#' Rock, '*' Crystal; units of the players 0 and 1 as letters (B, W, S, A, K; b, w, s, a, k).
func drawn(rows ...string) api.Header {
	h := api.Header{W: len(rows[0]), H: len(rows), Players: 2, Seed: 5}
	var tiles []byte
	for i, c := range strings.Join(rows, "") {
		tiles = append(tiles, uint8(max(0, strings.IndexRune(".#*", c))))
		if at := strings.IndexRune("BWSAKbwsak", c); at >= 0 {
			h.Starts = append(h.Starts, api.Start{Owner: uint8(at / 5), Kind: uint8(at%5 + 1), Tile: i})
		}
	}
	h.Tiles = string(tiles)
	return h
}

func war() api.Header {
	return drawn("BW.*..#S", "W..*.A..", "K.A..#s.", "#....s.s", "..*...wb", "..w..a.k")
}

func begin(t *testing.T, h api.Header) world.State {
	t.Helper()
	s, err := world.Begin(h)
	if err != api.OK {
		t.Fatal(err)
	}
	return s
}

func same(a, b world.State) bool {
	return a.M == b.M && a.Tick == b.Tick && a.Rng == b.Rng && a.Over == b.Over && a.Amounts == b.Amounts && slices.Equal(a.Players, b.Players) && a.Units == b.Units && slices.Equal(a.Bolts, b.Bolts)
}

// play tells the states of a game of random commands.
func play(t *testing.T, rnd *rand.Rand, h api.Header, n int, see func(s world.State)) {
	s := begin(t, h)
	see(s)
	for range n {
		var l []api.Command
		for range rnd.Intn(5) {
			if ids := s.Units.Ids(); len(ids) > 0 {
				id := ids[rnd.Intn(len(ids))]
				u, _ := s.Units.Get(id)
				l = append(l, api.Command{Player: u.Owner, Do: uint8(1 + rnd.Intn(7)), Unit: id, Tile: uint16(rnd.Intn(48)), Target: ids[rnd.Intn(len(ids))], Kind: uint8(1 + rnd.Intn(5))})
			}
		}
		s = tick.Tick(s, l)
		see(s)
	}
}

// P16.1: the example.
func TestExample(t *testing.T) {
	h := api.Header{W: 4, H: 4, Players: 1, Seed: 1, Tiles: strings.Repeat("\x00", 16)}
	s := begin(t, h)
	want := "\x00" + "\x00\x00\x00\x01" + "\x00" + "\x01" + "\x32\x00\x00" + "\x00\x00\x00\x00" + strings.Repeat("\x00", 128) + "\x00"
	if got := state.Bytes(s); string(got) != want || !state.May(h, s) {
		t.Errorf("%x, want %x", got, want)
	}
}

// P16.1: all that a state has, number by number.
func TestBytes(t *testing.T) {
	h := drawn("....", ".*..", "...#", "...s")
	s := begin(t, h)
	s.Tick, s.Rng, s.Over = 300, 0x01020304, true
	s.Players[0] = world.Player{Crystals: 129, Tech: 1, Out: true, Explored: [api.MaxSide]uint64{1, 2, 15, 8}}
	s.Players[1] = world.Player{}
	s.Amounts[5] = 99
	generations := make([]int, api.MaxUnits)
	generations[0], generations[1], generations[127] = 512, 100, 511
	one := world.Unit{Kind: api.Archer, Owner: 1, Tile: 15, HP: 12, Order: api.DoAttack, Goal: 65535, Progress: 255, Carry: 5, Cool: 200, Way: [8]uint16{1, 2, 15}, Steps: 3}
	two := world.Unit{Kind: api.Worker, Owner: 0, Tile: 0, HP: 1, Order: api.DoBuild, Goal: 4, What: api.Barracks}
	s.Units, _ = arena.Of(generations, map[int]world.Unit{1: one, 127: two})
	s.Bolts = []world.Bolt{{Owner: 1, At: fix.Point{X: 1023, Y: 0}, Tile: 15, Target: 65535, Damage: 255}, {}}
	want := "\xac\x02" + "\x01\x02\x03\x04" + "\x01" + "\x02" +
		"\x81\x01\x01\x01" + "\x01\x02\x0f\x08" + "\x00\x00\x00" + "\x00\x00\x00\x00" + "\x63" +
		"\x80\x08" + "\xc9\x01" + "\x04\x01\x0f\x0c\x03\xff\xff\x03\x00\xff\x01\x05\xc8\x01\x03\x01\x02\x0f" +
		strings.Repeat("\x00", 125) + "\xff\x07" + "\x02\x00\x00\x01\x05\x04\x05\x00\x00\x00\x00" +
		"\x02" + "\x01\xff\x07\x00\x0f\xff\xff\x03\xff\x01" + "\x00\x00\x00\x00\x00\x00"
	if got := state.Bytes(s); string(got) != want {
		t.Errorf("%x, want %x", got, want)
	}
	back, err := state.Take(h, []byte(want))
	if err != api.OK || !same(back, s) || !state.May(h, s) {
		t.Errorf("%v, %+v", err, back)
	}
}

// fault is a change that makes a state one that may not be.
type fault struct {
	name   string
	change func(s *world.State)
}

// of changes the unit in the slot 0.
func of(change func(u *world.Unit)) func(s *world.State) {
	return func(s *world.State) {
		u, _ := s.Units.Get(0)
		change(&u)
		s.Units = s.Units.Set(0, u)
	}
}

func bolt(change func(b *world.Bolt)) func(s *world.State) {
	return func(s *world.State) {
		b := world.Bolt{}
		change(&b)
		s.Bolts = append(s.Bolts, b)
	}
}

// faults are those that bytes can tell, of a state of war().
func faults() []fault {
	return []fault{
		{"the tick", func(s *world.State) { s.Tick = api.MaxTicks + 1 }},
		{"a great tick", func(s *world.State) { s.Tick = most }},
		{"rng", func(s *world.State) { s.Rng = 0 }},
		{"too few players", func(s *world.State) { s.Players = s.Players[:1] }},
		{"no players", func(s *world.State) { s.Players = nil }},
		{"too many players", func(s *world.State) { s.Players = append(s.Players, world.Player{}) }},
		{"five players", func(s *world.State) { s.Players = append(s.Players, make([]world.Player, 3)...) }},
		{"crystals", func(s *world.State) { s.Players[1].Crystals = wire.MaxInt + 1 }},
		{"tech", func(s *world.State) { s.Players[0].Tech = 2 }},
		{"explored to the right", func(s *world.State) { s.Players[0].Explored[5] |= 1 << 8 }},
		{"explored far to the right", func(s *world.State) { s.Players[0].Explored[0] |= 1 << 63 }},
		{"an amount", func(s *world.State) { s.Amounts[3] = 101 }},
		{"the kind 0", of(func(u *world.Unit) { u.Kind = 0 })},
		{"the kind 6", of(func(u *world.Unit) { u.Kind = 6 })},
		{"the owner", of(func(u *world.Unit) { u.Owner = 2 })},
		{"a rock", of(func(u *world.Unit) { u.Tile = 6 })},
		{"a crystal", of(func(u *world.Unit) { u.Tile = 3 })},
		{"off the map", of(func(u *world.Unit) { u.Tile = 48 })},
		{"another's tile", of(func(u *world.Unit) { u.Tile = 1 })},
		{"no hit points", of(func(u *world.Unit) { u.HP = 0 })},
		{"hit points", of(func(u *world.Unit) { u.HP = 61 })},
		{"the order DoStop", of(func(u *world.Unit) { u.Order = api.DoStop })},
		{"the order 8", of(func(u *world.Unit) { u.Order = 8 })},
		{"the goal", of(func(u *world.Unit) { u.Goal = 65536 })},
		{"to go off the map", of(func(u *world.Unit) { u.Order, u.Goal = api.DoGo, 48 })},
		{"to harvest off the map", of(func(u *world.Unit) { u.Order, u.Goal = api.DoHarvest, 48 })},
		{"to build off the map", of(func(u *world.Unit) { u.Order, u.Goal, u.What = api.DoBuild, 48, api.Base })},
		{"to build nothing", of(func(u *world.Unit) { u.Order, u.Goal, u.What = api.DoBuild, 4, 0 })},
		{"to build no kind", of(func(u *world.Unit) { u.Order, u.Goal, u.What = api.DoBuild, 4, 6 })},
		{"to train nothing", of(func(u *world.Unit) { u.Order, u.Goal = api.DoTrain, 0 })},
		{"to train no kind", of(func(u *world.Unit) { u.Order, u.Goal = api.DoTrain, 6 })},
		{"to train 257", of(func(u *world.Unit) { u.Order, u.Goal = api.DoTrain, 257 })},
		{"to build, idle", of(func(u *world.Unit) { u.What = api.Barracks })},
		{"to build, training", of(func(u *world.Unit) { u.Order, u.Goal, u.What = api.DoTrain, 2, api.Base })},
		{"progress", of(func(u *world.Unit) { u.Progress = 256 })},
		{"carry", of(func(u *world.Unit) { u.Carry = 6 })},
		{"a wait", of(func(u *world.Unit) { u.Cool = 256 })},
		{"a way off the map", of(func(u *world.Unit) { u.Way, u.Steps = [8]uint16{1, 48}, 2 })},
		{"the bolt's owner", bolt(func(b *world.Bolt) { b.Owner = 2 })},
		{"the bolt's X", bolt(func(b *world.Bolt) { b.At.X = 8 * 256 })},
		{"the bolt's Y", bolt(func(b *world.Bolt) { b.At.Y = 6 * 256 })},
		{"the bolt's tile", bolt(func(b *world.Bolt) { b.Tile = 48 })},
		{"the bolt's damage", bolt(func(b *world.Bolt) { b.Damage = 256 })},
	}
}

// P16.1, P16.2: states that may not be, and their bytes.
func TestFaults(t *testing.T) {
	h := war()
	for _, f := range faults() {
		s := begin(t, h)
		f.change(&s)
		if state.May(h, s) {
			t.Errorf("%s: it may be", f.name)
		}
		if got, err := state.Take(h, state.Bytes(s)); err != api.ErrForm || !same(got, world.State{}) {
			t.Errorf("%s: %v", f.name, err)
		}
	}
}

// P16.1: states that may not be, that no bytes tell.
func TestFaultsBeyondBytes(t *testing.T) {
	h := war()
	other, _ := grid.New(8, 6, strings.Repeat("\x00", 48))
	for _, f := range []fault{
		{"a tick below 0", func(s *world.State) { s.Tick = -1 }},
		{"another map", func(s *world.State) { s.M = other }},
		{"no map", func(s *world.State) { s.M = grid.Map{} }},
		{"crystals below 0", func(s *world.State) { s.Players[0].Crystals = -1 }},
		{"tech below 0", func(s *world.State) { s.Players[0].Tech = -1 }},
		{"explored below the map", func(s *world.State) { s.Players[0].Explored[6] = 1 }},
		{"an amount of ground", func(s *world.State) { s.Amounts[2] = 1 }},
		{"an amount off the map", func(s *world.State) { s.Amounts[48] = 1 }},
		{"the last amount", func(s *world.State) { s.Amounts[4095] = 1 }},
		{"a tile below 0", of(func(u *world.Unit) { u.Tile = -1 })},
		{"hit points below 0", of(func(u *world.Unit) { u.HP = least })},
		{"a goal below 0", of(func(u *world.Unit) { u.Goal = -1 })},
		{"progress below 0", of(func(u *world.Unit) { u.Progress = -1 })},
		{"carry below 0", of(func(u *world.Unit) { u.Carry = -1 })},
		{"a wait below 0", of(func(u *world.Unit) { u.Cool = -1 })},
		{"nine tiles", of(func(u *world.Unit) { u.Steps = 9 })},
		{"255 tiles", of(func(u *world.Unit) { u.Steps = 255 })},
		{"a tile behind the way", of(func(u *world.Unit) { u.Way, u.Steps = [8]uint16{1, 2}, 1 })},
		{"X below 0", bolt(func(b *world.Bolt) { b.At.X = -1 })},
		{"Y below 0", bolt(func(b *world.Bolt) { b.At.Y = -1 << 31 })},
		{"the bolt's tile below 0", bolt(func(b *world.Bolt) { b.Tile = least })},
		{"a damage below 0", bolt(func(b *world.Bolt) { b.Damage = -1 })},
	} {
		s := begin(t, h)
		f.change(&s)
		if state.May(h, s) {
			t.Errorf("%s: it may be", f.name)
		}
		if got, err := state.Take(h, state.Bytes(s)); err == api.OK && same(got, s) {
			t.Errorf("%s: it is taken", f.name)
		}
	}
	s := begin(t, h)
	if state.May(api.Header{}, s) || state.May(api.Header{}, world.State{}) || state.May(h, world.State{}) {
		t.Error("zero ones")
	}
	h.Players = 3
	if state.May(h, s) {
		t.Error("another number of players")
	}
}

// P16.1, P16.2: the edges up to which a state may be.
func TestEdges(t *testing.T) {
	h := war()
	for _, f := range []fault{
		{"the tick", func(s *world.State) { s.Tick = api.MaxTicks }},
		{"crystals", func(s *world.State) { s.Players[1].Crystals = wire.MaxInt }},
		{"explored", func(s *world.State) { s.Players[0].Explored[5] = 255 }},
		{"amounts", func(s *world.State) { s.Amounts[3] = 0 }},
		{"hit points", of(func(u *world.Unit) { u.HP = 1 })},
		{"any goal, idle", of(func(u *world.Unit) { u.Goal = 65535 })},
		{"to research", of(func(u *world.Unit) { u.Order, u.Goal = api.DoResearch, 65535 })},
		{"to go to a rock", of(func(u *world.Unit) { u.Order, u.Goal = api.DoGo, 47 })},
		{"to train a base", of(func(u *world.Unit) { u.Order, u.Goal = api.DoTrain, 5 })},
		{"to build a base", of(func(u *world.Unit) { u.Order, u.Goal, u.What = api.DoBuild, 0, api.Base })},
		{"progress, carry, a wait", of(func(u *world.Unit) { u.Progress, u.Carry, u.Cool = 255, 5, 255 })},
		{"eight tiles", of(func(u *world.Unit) { u.Way, u.Steps = [8]uint16{47, 0, 0, 1, 1, 6, 3, 47}, 8 })},
		{"a bolt", bolt(func(b *world.Bolt) {
			*b = world.Bolt{Owner: 1, At: fix.Point{X: 8*256 - 1, Y: 6*256 - 1}, Tile: 47, Target: 65535, Damage: 255}
		})},
		{"generations", func(s *world.State) {
			generations := make([]int, api.MaxUnits)
			for i := range generations {
				generations[i] = arena.Last + 1
			}
			generations[9] = arena.Last
			s.Units, _ = arena.Of(generations, map[int]world.Unit{9: {Kind: api.Base, HP: 60}})
		}},
	} {
		s := begin(t, h)
		f.change(&s)
		back, err := state.Take(h, state.Bytes(s))
		if !state.May(h, s) || err != api.OK || !same(back, s) {
			t.Errorf("%s: %v, %v", f.name, state.May(h, s), err)
		}
	}
	wide := api.Header{W: 64, H: 64, Players: 1, Seed: 1, Tiles: strings.Repeat("\x02", 4096)}
	s := begin(t, wide)
	for i := range s.Players[0].Explored {
		s.Players[0].Explored[i] = 1<<64 - 1
	}
	if back, err := state.Take(wide, state.Bytes(s)); err != api.OK || !same(back, s) {
		t.Errorf("the greatest map: %v", err)
	}
	wide.Tiles = wide.Tiles[:4095] + "\x00"
	wide.Starts = []api.Start{{Kind: api.Base, Tile: 4095}}
	s = begin(t, wide)
	if back, err := state.Take(wide, state.Bytes(s)); err != api.OK || !same(back, s) {
		t.Errorf("its last tile: %v", err)
	}
}

// P16.2: which error wrong bytes meet: a header that may not be ahead of all; what a reader refuses ahead of what may not be.
func TestTakeFaults(t *testing.T) {
	h := war()
	s := begin(t, h)
	b := state.Bytes(s)
	if _, err := state.Take(api.Header{}, b); err != api.ErrArg {
		t.Errorf("a zero header: %v", err)
	}
	if _, err := state.Take(api.Header{}, nil); err != api.ErrArg {
		t.Errorf("a zero header, no bytes: %v", err)
	}
	for n := range b {
		if got, err := state.Take(h, b[:n]); err != api.ErrShort || !same(got, world.State{}) {
			t.Fatalf("%d bytes: %v", n, err)
		}
	}
	if _, err := state.Take(h, append(bytes.Clone(b), 0)); err != api.ErrForm {
		t.Errorf("a byte more: %v", err)
	}
	if _, err := state.Take(h, append([]byte{0x80, 0}, b[1:]...)); err != api.ErrForm {
		t.Errorf("a varint that is too long: %v", err)
	}
	s.Players[0].Tech = 2
	wrong := state.Bytes(s)
	if _, err := state.Take(h, wrong[:len(wrong)-1]); err != api.ErrShort {
		t.Errorf("wrong, and short: %v", err)
	}
	over := bytes.Clone(b)
	over[5] = 2
	if _, err := state.Take(h, over); err != api.ErrForm {
		t.Errorf("over as 2: %v", err)
	}
	huge := append(bytes.Clone(b[:6]), "\xff\xff\xff\xff\xff\xff\xff\xff\xff\x01"...)
	if _, err := state.Take(h, huge); err != api.ErrShort {
		t.Errorf("players without end: %v", err)
	}
}

// P16.2: numbers that do not fit where they belong are no others.
func TestTakeGreat(t *testing.T) {
	h := drawn("....", "....", "....", "...S")
	s := begin(t, h)
	b := state.Bytes(s)
	at := bytes.Index(b, []byte("\x01\x03\x00\x0f\x14\x00\x00\x00\x00\x00\x00\x00"))
	if at < 0 {
		t.Fatalf("%x", b)
	}
	for field := 1; field < 12; field++ {
		for _, shift := range []int{8, 16, 32, 63} {
			x := wire.Put(bytes.Clone(b[:at+field]), uint64(b[at+field])+1<<shift)
			x = append(x, b[at+field+1:]...)
			want := api.ErrForm
			if field == 11 {
				want = api.ErrShort // so many tiles are not there
			}
			if field == 6 && shift == 8 {
				continue // who is idle may have the goal 256
			}
			if _, err := state.Take(h, x); err != want {
				t.Errorf("the number %d above 2^%d: %v", field, shift, err)
			}
		}
	}
	nine := append(append(bytes.Clone(b[:at+11]), 9, 0, 0, 0, 0, 0, 0, 0, 0, 0), b[at+12:]...)
	if _, err := state.Take(h, nine); err != api.ErrForm {
		t.Errorf("nine tiles: %v", err)
	}
	eight := append(append(bytes.Clone(b[:at+11]), 8, 0, 0, 0, 0, 0, 0, 0, 0), b[at+12:]...)
	if _, err := state.Take(h, eight); err != api.OK {
		t.Errorf("eight tiles: %v", err)
	}
	four := api.Header{W: 4, H: 4, Players: 4, Tiles: strings.Repeat("\x00", 16)}
	crowd := begin(t, four)
	crowd.Players = append(crowd.Players, world.Player{})
	if _, err := state.Take(four, state.Bytes(crowd)); err != api.ErrForm {
		t.Errorf("five players of four: %v", err)
	}
	for _, n := range []uint64{2 * 513, 2*512 + 1, 1 << 20, 1<<64 - 2} {
		x := wire.Put(bytes.Clone(b[:at]), n)
		x = append(x, b[at+1:]...)
		if _, err := state.Take(h, x); err == api.OK {
			t.Errorf("the generation %d", n/2)
		}
	}
}

// P16.3: what a header's ticks come to may be, and is taken from its bytes as it is; unlike states have unlike bytes.
func TestGames(t *testing.T) {
	rnd := rand.New(rand.NewSource(1))
	for range 3 {
		seen := map[string]bool{}
		play(t, rnd, war(), 150, func(s world.State) {
			b := state.Bytes(s)
			back, err := state.Take(war(), b)
			if !state.May(war(), s) || err != api.OK || !same(back, s) {
				t.Fatalf("tick %d: %v, %v", s.Tick, state.May(war(), s), err)
			}
			if seen[string(b)] {
				t.Fatalf("tick %d: the bytes of another state", s.Tick)
			}
			seen[string(b)] = true
		})
	}
}

// P16.3: bytes that are taken are the state's.
func TestTakenIsBytes(t *testing.T) {
	rnd := rand.New(rand.NewSource(2))
	var frames [][]byte
	play(t, rnd, war(), 60, func(s world.State) { frames = append(frames, state.Bytes(s)) })
	taken := 0
	for range 6000 {
		b := bytes.Clone(frames[rnd.Intn(len(frames))])
		for range 1 + rnd.Intn(2) {
			b[rnd.Intn(len(b))] ^= byte(1 << rnd.Intn(8))
		}
		s, err := state.Take(war(), b)
		if err == api.OK {
			taken++
			if !bytes.Equal(state.Bytes(s), b) || !state.May(war(), s) {
				t.Fatalf("%x is taken as another one", b)
			}
		} else if !same(s, world.State{}) || err != api.ErrForm && err != api.ErrShort {
			t.Fatalf("%v", err)
		}
	}
	if taken < 100 {
		t.Errorf("only %d were taken", taken)
	}
}

// R1: bytes of states that may not be, zero ones and strange ones, are told without a panic.
func TestStrange(t *testing.T) {
	state.Bytes(world.State{})
	var s world.State
	s.Units, _, _ = s.Units.Add(world.Unit{Steps: 255, Tile: least, HP: least})
	s.Bolts = []world.Bolt{{At: fix.Point{X: -1 << 31, Y: -1}}}
	state.Bytes(s)
	if state.May(war(), s) {
		t.Error("it may be")
	}
}
