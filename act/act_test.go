package act_test

import (
	"math/rand"
	"slices"
	"strings"
	"testing"

	"rematch/act"
	"rematch/api"
	"rematch/arena"
	"rematch/fix"
	"rematch/order"
	"rematch/rng"
	"rematch/rules"
	"rematch/world"
)

// game begins one on a map that is drawn: '.' Ground, '#' Rock, '*' Crystal; units of the players 0 and 1 as letters (B, W, S, A, K; b, w, s, a, k).
func game(t *testing.T, rows ...string) world.State {
	t.Helper()
	h := api.Header{W: len(rows[0]), H: len(rows), Players: 2, Seed: 5}
	var tiles []byte
	for i, c := range strings.Join(rows, "") {
		kind := uint8(strings.IndexRune("BWSAK", c) + 1)
		small := uint8(strings.IndexRune("bwsak", c) + 1)
		tile := uint8(max(0, strings.IndexRune(".#*", c)))
		tiles = append(tiles, tile)
		if kind > 0 {
			h.Starts = append(h.Starts, api.Start{Owner: 0, Kind: kind, Tile: i})
		} else if small > 0 {
			h.Starts = append(h.Starts, api.Start{Owner: 1, Kind: small, Tile: i})
		}
	}
	h.Tiles = string(tiles)
	s, err := world.Begin(h)
	if err != api.OK {
		t.Fatal(err)
	}
	return s
}

func unit(t *testing.T, s world.State, id uint16) world.Unit {
	t.Helper()
	u, ok := s.Units.Get(id)
	if !ok {
		t.Fatalf("no unit %d", id)
	}
	return u
}

// with is a state in which a unit was changed.
func with(t *testing.T, s world.State, id uint16, f func(u *world.Unit)) world.State {
	t.Helper()
	u := unit(t, s, id)
	f(&u)
	s.Units = s.Units.Set(id, u)
	return s
}

// on gives a unit on a tile an order, and answers its id.
func on(t *testing.T, s *world.State, tile int, do uint8, goal int, what uint8) uint16 {
	t.Helper()
	id, ok := s.At(tile)
	if !ok {
		t.Fatalf("nobody on %d", tile)
	}
	*s = with(t, *s, id, func(u *world.Unit) { u.Order, u.Goal, u.What = do, goal, what })
	return id
}

// times lets a unit act so often.
func times(s world.State, id uint16, n int) world.State {
	for range n {
		s = act.Act(s, id)
	}
	return s
}

func same(a, b world.State) bool {
	return a.M == b.M && a.Tick == b.Tick && a.Rng == b.Rng && a.Over == b.Over && a.Amounts == b.Amounts && slices.Equal(a.Players, b.Players) && a.Units == b.Units && slices.Equal(a.Bolts, b.Bolts)
}

func idle(u world.Unit) bool {
	return u.Order == 0 && u.Goal == 0 && u.What == 0 && u.Progress == 0 && u.Steps == 0 && u.Way == [world.Ahead]uint16{}
}

// P13.1: who is not there, or has no hit points, does nothing; who is idle waits one tick less.
func TestWait(t *testing.T) {
	s := game(t, "S...", "....", "....", "...s")
	for _, id := range []uint16{2, 128, 65535} {
		if !same(act.Act(s, id), s) {
			t.Errorf("the unit %d acts", id)
		}
	}
	if !same(act.Act(world.State{}, 0), world.State{}) {
		t.Error("somebody acts in a zero state")
	}
	for _, hp := range []int{0, -3} {
		dead := with(t, s, 0, func(u *world.Unit) { u.HP, u.Cool, u.Order, u.Goal = hp, 3, api.DoGo, 2 })
		if !same(act.Act(dead, 0), dead) {
			t.Errorf("one with %d hit points acts", hp)
		}
	}
	for _, do := range []uint8{0, api.DoStop, 8, 255} {
		waits := with(t, s, 0, func(u *world.Unit) { u.Cool, u.Order, u.Goal, u.Progress = 2, do, 3, 1 })
		want := with(t, waits, 0, func(u *world.Unit) { u.Cool = 1 })
		if !same(act.Act(waits, 0), want) {
			t.Errorf("the order %d", do)
		}
		want = with(t, want, 0, func(u *world.Unit) { u.Cool = 0 })
		if !same(times(waits, 0, 5), want) {
			t.Errorf("the order %d, five times", do)
		}
	}
}

// P13.1: to go: the example, tick by tick.
func TestGo(t *testing.T) {
	s := game(t, "S...", "....", "....", "...s")
	id := on(t, &s, 0, api.DoGo, 2, 0)
	for i, want := range []world.Unit{
		{Tile: 0, Order: api.DoGo, Goal: 2, Progress: 1, Way: [8]uint16{1, 2}, Steps: 2},
		{Tile: 1, Order: api.DoGo, Goal: 2, Progress: 0, Way: [8]uint16{2}, Steps: 1},
		{Tile: 1, Order: api.DoGo, Goal: 2, Progress: 1, Way: [8]uint16{2}, Steps: 1},
		{Tile: 2},
		{Tile: 2},
	} {
		s = act.Act(s, id)
		want.Kind, want.HP = api.Soldier, 20
		if u := unit(t, s, id); u != want {
			t.Fatalf("behind %d ticks: %+v", i+1, u)
		}
	}
	here := game(t, "S...", "....", "....", "...s")
	on(t, &here, 0, api.DoGo, 0, 0)
	if u := unit(t, act.Act(here, 0), 0); !idle(u) || u.Tile != 0 {
		t.Errorf("on its goal: %+v", u)
	}
}

// P13.1: a way has at most Ahead tiles; behind them another one is found.
func TestAhead(t *testing.T) {
	s := game(t, "S...........", "............", "............", "...........s")
	id := on(t, &s, 0, api.DoGo, 11, 0)
	s = act.Act(s, id)
	if u := unit(t, s, id); u.Steps != 8 || u.Way != [8]uint16{1, 2, 3, 4, 5, 6, 7, 8} {
		t.Fatalf("%+v", u)
	}
	s = times(s, id, 15)
	if u := unit(t, s, id); u.Steps != 0 || u.Tile != 8 || u.Way != [8]uint16{} {
		t.Fatalf("behind 16 ticks: %+v", u)
	}
	s = act.Act(s, id)
	if u := unit(t, s, id); u.Steps != 3 || u.Way != [8]uint16{9, 10, 11} || u.Progress != 1 {
		t.Fatalf("behind 17 ticks: %+v", u)
	}
	if u := unit(t, times(s, id, 5), id); !idle(u) || u.Tile != 11 {
		t.Fatalf("behind 22 ticks: %+v", u)
	}
}

// P13.1: who comes into the way: no way, and progress 0; and then a way around.
func TestBlocked(t *testing.T) {
	s := game(t, "S...", "....", "....", "...s")
	id := on(t, &s, 0, api.DoGo, 2, 0)
	s = act.Act(s, id)
	s = with(t, s, 1, func(u *world.Unit) { u.Tile = 1 })
	s = act.Act(s, id)
	if u := unit(t, s, id); u.Progress != 0 || u.Steps != 0 || u.Way != [8]uint16{} || u.Order != api.DoGo || u.Goal != 2 || u.Tile != 0 {
		t.Fatalf("%+v", u)
	}
	s = act.Act(s, id)
	if u := unit(t, s, id); u.Progress != 1 || u.Steps != 4 || u.Way != [8]uint16{4, 5, 6, 2} {
		t.Fatalf("%+v", u)
	}
	walled := game(t, "S#..", "##..", "....", "...s")
	on(t, &walled, 0, api.DoGo, 2, 0)
	if u := unit(t, act.Act(walled, 0), 0); !idle(u) || u.Tile != 0 {
		t.Errorf("no way: %+v", u)
	}
	taken := game(t, "S.s.", "....", "....", "....")
	on(t, &taken, 0, api.DoGo, 2, 0)
	if u := unit(t, act.Act(taken, 0), 0); !idle(u) || u.Tile != 0 {
		t.Errorf("the goal is busy: %+v", u)
	}
}

// P13.1: a building does not come forward, whatever order a state from bytes gives it.
func TestBuildingStays(t *testing.T) {
	s := game(t, "B...", "....", "....", "...s")
	id := on(t, &s, 0, api.DoGo, 2, 0)
	if u := unit(t, times(s, id, 9), id); u.Tile != 0 || u.Progress != 9 || u.Steps != 2 {
		t.Errorf("%+v", u)
	}
}

// P13.1: to strike: damage, wait, and the state of rng.
func TestStrike(t *testing.T) {
	s := game(t, "Ss..", "....", "....", "....")
	id := on(t, &s, 0, api.DoAttack, 1, 0)
	s = with(t, s, id, func(u *world.Unit) { u.Progress, u.Steps, u.Way = 1, 1, [8]uint16{4} })
	hp, chance := 20, s.Rng
	for i := range 13 {
		s = act.Act(s, id)
		if i%4 == 0 {
			chance = rng.Next(chance)
			hp -= 4 + rng.Below(chance, 2)
		}
		u, foe := unit(t, s, id), unit(t, s, 1)
		if s.Rng != chance || foe.HP != hp || len(s.Bolts) != 0 || u.HP != 20 {
			t.Fatalf("tick %d: rng %d, hit points %d, want %d, %d", i, s.Rng, foe.HP, chance, hp)
		}
		if u.Cool != 4-i%4 || u.Progress != 0 || u.Steps != 0 || u.Way != [8]uint16{} || u.Order != api.DoAttack {
			t.Fatalf("tick %d: %+v", i, u)
		}
	}
	weak := with(t, s, 1, func(u *world.Unit) { u.HP = 1 })
	weak = with(t, weak, id, func(u *world.Unit) { u.HP, u.Cool = 1, 1 })
	if u := unit(t, act.Act(weak, id), 1); u.HP > -3 {
		t.Errorf("one hit point left: %+v", u)
	}
	s = with(t, s, 1, func(u *world.Unit) { u.HP = 0 })
	s = with(t, s, id, func(u *world.Unit) { u.Progress, u.Steps, u.Way = 1, 2, [8]uint16{4, 5} })
	if u := unit(t, act.Act(s, id), id); !idle(u) || u.Cool != 3 {
		t.Errorf("one without hit points: %+v", u)
	}
	s.Units = s.Units.Drop(1)
	if u := unit(t, act.Act(s, id), id); !idle(u) {
		t.Errorf("nobody: %+v", u)
	}
}

// P13.1: to shoot: from the middle of the tile, at the other one, as the last bolt of all.
func TestShoot(t *testing.T) {
	s := game(t, "....", "A...", "...s", "....")
	id := on(t, &s, 4, api.DoAttack, 1, 0)
	s.Bolts = []world.Bolt{{Owner: 1, Damage: 9}}
	got := act.Act(s, id)
	chance := rng.Next(s.Rng)
	want := []world.Bolt{{Owner: 1, Damage: 9}, {Owner: 0, At: fix.Middle(0, 1), Tile: 11, Target: 1, Damage: 3 + rng.Below(chance, 2)}}
	if u := unit(t, got, id); !slices.Equal(got.Bolts, want) || unit(t, got, 1).HP != 20 || got.Rng != chance || u.Cool != 6 {
		t.Errorf("%+v, %+v", got.Bolts, u)
	}
	if next := times(got, id, 5); len(next.Bolts) != 2 || len(act.Act(next, id).Bolts) != 3 {
		t.Error("it does not wait six ticks")
	}
}

// P13.1: who is too far steps toward the other one's tile, near its range, and waits less meanwhile.
func TestChase(t *testing.T) {
	s := game(t, "S....s", "......", "......", "......")
	id := on(t, &s, 0, api.DoAttack, 1, 0)
	s = with(t, s, id, func(u *world.Unit) { u.Cool = 9 })
	s = act.Act(s, id)
	if u := unit(t, s, id); u.Steps != 4 || u.Way != [8]uint16{1, 2, 3, 4} || u.Progress != 1 || u.Cool != 8 || s.Rng != 5 {
		t.Fatalf("%+v", u)
	}
	s = times(s, id, 7)
	if u := unit(t, s, id); u.Tile != 4 || u.Cool != 1 || unit(t, s, 1).HP != 20 {
		t.Fatalf("%+v", u)
	}
	if s = act.Act(s, id); unit(t, s, 1).HP == 20 {
		t.Error("no strike")
	}
	shut := game(t, "S#...s", "##....", "......", "......")
	id = on(t, &shut, 0, api.DoAttack, 1, 0)
	if u := unit(t, act.Act(shut, id), id); !idle(u) {
		t.Errorf("no way: %+v", u)
	}
	archer := game(t, "A.....s", ".......", ".......", ".......")
	id = on(t, &archer, 0, api.DoAttack, 1, 0)
	if u := unit(t, act.Act(archer, id), id); u.Steps != 2 {
		t.Errorf("near its range: %+v", u)
	}
}

// P13.1: ids that no unit has; and, in a state from bytes, oneself.
func TestStrangeTargets(t *testing.T) {
	s := game(t, "Ss..", "....", "....", "....")
	for _, goal := range []int{2, 128, 65535, -1, 65536, 65537, 1 << 40} {
		x := with(t, s, 0, func(u *world.Unit) { u.Order, u.Goal = api.DoAttack, goal })
		if u := unit(t, act.Act(x, 0), 0); !idle(u) {
			t.Errorf("the goal %d: %+v", goal, u)
		}
	}
	generations := make([]int, api.MaxUnits)
	generations[127] = 511
	last, one, two := s, unit(t, s, 0), unit(t, s, 1)
	one.Order, one.Goal = api.DoAttack, 65535
	last.Units, _ = arena.Of(generations, map[int]world.Unit{0: one, 127: two})
	if got := act.Act(last, 0); unit(t, got, 65535).HP > 16 || unit(t, got, 0).Cool != 4 {
		t.Errorf("the last id of all: %+v", unit(t, got, 65535))
	}
	x := with(t, s, 0, func(u *world.Unit) { u.Order, u.Goal = api.DoAttack, 0 })
	got := act.Act(x, 0)
	if u := unit(t, got, 0); u.HP != 20-4-rng.Below(got.Rng, 2) || u.Cool != 4 || u.Order != api.DoAttack {
		t.Errorf("itself: %+v", u)
	}
}

// P13.1: a worker digs five crystals in 20 ticks, walks home, and its player has them.
func TestHarvest(t *testing.T) {
	s := game(t, "B...W*", "......", "......", "......")
	id := on(t, &s, 4, api.DoHarvest, 5, 0)
	for i := range 20 {
		s = act.Act(s, id)
		if u := unit(t, s, id); u.Carry != (i+1)/4 || u.Progress != (i+1)%4 || int(s.Amounts[5]) != 100-u.Carry || u.Tile != 4 {
			t.Fatalf("tick %d: %+v, %d", i, u, s.Amounts[5])
		}
	}
	s = times(s, id, 9)
	if u := unit(t, s, id); u.Tile != 1 || u.Carry != 5 || s.Players[0].Crystals != 50 || u.Order != api.DoHarvest {
		t.Fatalf("walking home: %+v", u)
	}
	s = with(t, s, id, func(u *world.Unit) { u.Progress, u.Steps, u.Way = 2, 1, [8]uint16{7} })
	s = act.Act(s, id)
	if u := unit(t, s, id); s.Players[0].Crystals != 55 || s.Players[1].Crystals != 50 || u.Carry != 0 || u.Progress != 0 || u.Steps != 0 || u.Way != [8]uint16{} || u.Order != api.DoHarvest || u.Goal != 5 {
		t.Fatalf("at home: %+v, %d", u, s.Players[0].Crystals)
	}
	s = times(s, id, 9+20+9+1)
	if s.Players[0].Crystals != 60 || s.Amounts[5] != 90 {
		t.Errorf("the second time: %d, %d", s.Players[0].Crystals, s.Amounts[5])
	}
}

// P13.1: a tile without crystals: what is carried is brought home; who carries nothing has done.
func TestEmptyTile(t *testing.T) {
	s := game(t, "BW*...", "......", "......", "......")
	id := on(t, &s, 1, api.DoHarvest, 2, 0)
	s.Amounts[2] = 1
	s = times(s, id, 4)
	if u := unit(t, s, id); u.Carry != 1 || s.Amounts[2] != 0 {
		t.Fatalf("%+v", u)
	}
	s = act.Act(s, id)
	if s.Players[0].Crystals != 51 || unit(t, s, id).Order != api.DoHarvest {
		t.Fatal("not brought home")
	}
	if u := unit(t, act.Act(s, id), id); !idle(u) {
		t.Errorf("%+v", u)
	}
	near := game(t, "W.*...", "......", "......", "......")
	id = on(t, &near, 0, api.DoHarvest, 2, 0)
	near = times(near, id, 3)
	if u := unit(t, near, id); u.Tile != 1 || u.Progress != 0 || u.Carry != 0 {
		t.Errorf("two tiles far: %+v", u)
	}
	digs := with(t, times(near, id, 3), id, func(u *world.Unit) { u.Carry = 5 })
	digs.Units, _, _ = digs.Units.Add(world.Unit{Kind: api.Base, Tile: 5, HP: 60})
	if u := unit(t, act.Act(digs, id), id); u.Progress != 1 || u.Steps != 5 || u.Way != [8]uint16{7, 8, 9, 3, 4} {
		t.Errorf("on its way home its progress begins anew: %+v", u)
	}
	far := game(t, "W..#*.", "...#..", "...###", "......")
	id = on(t, &far, 0, api.DoHarvest, 4, 0)
	if u := unit(t, act.Act(far, id), id); !idle(u) {
		t.Errorf("no way: %+v", u)
	}
}

// P13.1: home is the nearest Base, of several the one of the least slot; one without hit points, or another's, is none.
func TestHome(t *testing.T) {
	s := game(t, "B.....", "......", "...W..", "......", "......", "..B.b.")
	id, _ := s.At(15)
	s = with(t, s, id, func(u *world.Unit) { u.Order, u.Goal, u.Carry = api.DoHarvest, 0, 5 })
	ways := func(s world.State) [8]uint16 { return unit(t, act.Act(s, id), id).Way }
	if got := ways(s); got != [8]uint16{14, 20, 26} {
		t.Errorf("the nearest: %v", got)
	}
	near, _ := s.At(32)
	weak := with(t, s, near, func(u *world.Unit) { u.HP = 1 })
	if got := ways(weak); got != [8]uint16{14, 20, 26} {
		t.Errorf("one hit point left: %v", got)
	}
	dead := with(t, s, near, func(u *world.Unit) { u.HP = 0 })
	if got := ways(dead); got != [8]uint16{9, 3, 2, 1} {
		t.Errorf("the other one: %v", got)
	}
	none := dead
	none.Units = none.Units.Drop(0)
	if u := unit(t, act.Act(none, id), id); !idle(u) || u.Carry != 5 {
		t.Errorf("none: %+v", u)
	}
	two := game(t, "..B...", "......", "..W...", "......", "..B...")
	id, _ = two.At(14)
	two = with(t, two, id, func(u *world.Unit) { u.Order, u.Goal, u.Carry = api.DoHarvest, 0, 5 })
	if got := ways(two); got != [8]uint16{8} {
		t.Errorf("of two the least slot: %v", got)
	}
	lone := game(t, "W*..", "....", "....", "...b")
	id = on(t, &lone, 0, api.DoHarvest, 1, 0)
	lone = with(t, lone, id, func(u *world.Unit) { u.Carry = 5 })
	if u := unit(t, act.Act(lone, id), id); !idle(u) || u.Carry != 5 {
		t.Errorf("no home: %+v", u)
	}
}

// P13.1: to build: twelve ticks next to the goal, and it stands there; the worker has done.
func TestBuild(t *testing.T) {
	s := game(t, "W...", "....", "....", "...s")
	id := on(t, &s, 0, api.DoBuild, 2, api.Barracks)
	s = times(s, id, 3)
	if u := unit(t, s, id); u.Tile != 1 || u.Progress != 0 || u.Order != api.DoBuild {
		t.Fatalf("%+v", u)
	}
	s = times(s, id, 11)
	if u := unit(t, s, id); u.Progress != 11 || len(s.Units.Ids()) != 2 {
		t.Fatalf("%+v", u)
	}
	s = act.Act(s, id)
	if got := unit(t, s, 2); got != (world.Unit{Kind: api.Barracks, Owner: 0, Tile: 2, HP: 40}) || !idle(unit(t, s, id)) || s.Players[0].Crystals != 50 {
		t.Errorf("%+v, %+v, %d", got, unit(t, s, id), s.Players[0].Crystals)
	}
}

// P13.1: an order to build that ends is paid back: on the goal, if it is busy, without room, without a way.
func TestBuildEnds(t *testing.T) {
	full := game(t, "W...............", strings.Repeat("S", 16), strings.Repeat("S", 16), strings.Repeat("S", 16), strings.Repeat("S", 16), strings.Repeat("S", 16), strings.Repeat("S", 16), strings.Repeat("S", 16), "SSSSSSSSSSSSSSS.")
	if len(full.Units.Ids()) != api.MaxUnits {
		t.Fatal("not full")
	}
	for name, r := range map[string]struct {
		s     world.State
		goal  int
		ticks int
	}{
		"on the goal": {game(t, "W...", "....", "....", "...s"), 0, 1},
		"busy":        {game(t, "Ws..", "....", "....", "...."), 1, 1},
		"no room":     {full, 1, 12},
		"no way":      {game(t, "W#..", "##..", "....", "...s"), 3, 1},
	} {
		s := r.s
		id := on(t, &s, 0, api.DoBuild, r.goal, api.Barracks)
		ahead := times(s, id, r.ticks-1)
		got := act.Act(ahead, id)
		if unit(t, ahead, id).Order != api.DoBuild || ahead.Players[0].Crystals != 50 || got.Players[0].Crystals != 90 || !idle(unit(t, got, id)) || len(got.Units.Ids()) != len(s.Units.Ids()) {
			t.Errorf("%s: %+v, %d", name, unit(t, got, id), got.Players[0].Crystals)
		}
	}
	s := game(t, "W...", "....", "....", "...s")
	id := on(t, &s, 0, api.DoBuild, 1, api.Barracks)
	s = times(s, id, 5)
	s = with(t, s, 1, func(u *world.Unit) { u.Tile = 1 })
	if s = act.Act(s, id); !idle(unit(t, s, id)) || s.Players[0].Crystals != 90 {
		t.Error("busy in the midst of it")
	}
}

// P13.1: to train: the time of the kind, then the first free tile, north, east, south, west; else it waits.
func TestTrain(t *testing.T) {
	s := game(t, "....", ".K..", "....", "...s")
	id := on(t, &s, 5, api.DoTrain, int(api.Archer), 0)
	s = times(s, id, 9)
	if u := unit(t, s, id); u.Progress != 9 || len(s.Units.Ids()) != 2 {
		t.Fatalf("%+v", u)
	}
	got := act.Act(s, id)
	if u := unit(t, got, 2); u != (world.Unit{Kind: api.Archer, Owner: 0, Tile: 1, HP: 12}) || !idle(unit(t, got, id)) || got.Players[0].Crystals != 50 {
		t.Errorf("%+v", u)
	}
	for _, r := range []struct {
		rows []string
		want int
	}{
		{[]string{".#..", ".K..", "....", "...s"}, 6},
		{[]string{".*..", ".Ks.", "....", "...."}, 9},
		{[]string{".W..", ".KW.", ".W..", "...s"}, 4},
		{[]string{"K...", "....", "....", "...s"}, 1},
	} {
		x := game(t, r.rows...)
		tile := strings.IndexByte(strings.Join(r.rows, ""), 'K')
		id := on(t, &x, tile, api.DoTrain, int(api.Soldier), 0)
		x = times(x, id, 8)
		if at, ok := x.At(r.want); !ok || unit(t, x, at).Kind != api.Soldier || !idle(unit(t, x, id)) {
			t.Errorf("%v: nobody on %d", r.rows, r.want)
		}
	}
	shut := game(t, ".W..", "#K#.", ".s..", "....")
	id = on(t, &shut, 5, api.DoTrain, int(api.Soldier), 0)
	shut = times(shut, id, 30)
	if u := unit(t, shut, id); u.Progress != 8 || u.Order != api.DoTrain || len(shut.Units.Ids()) != 3 {
		t.Errorf("it does not wait: %+v", u)
	}
	w, _ := shut.At(1)
	shut = with(t, shut, w, func(u *world.Unit) { u.Tile = 0 })
	if shut = act.Act(shut, id); !idle(unit(t, shut, id)) || len(shut.Units.Ids()) != 4 {
		t.Error("room at last, and nobody comes")
	}
}

// P13.1: without room in the arena training waits.
func TestTrainNoRoom(t *testing.T) {
	rows := []string{"K..............."}
	for range 7 {
		rows = append(rows, strings.Repeat("S", 16))
	}
	rows = append(rows, "SSSSSSSSSSSSSSS.")
	s := game(t, rows...)
	id := on(t, &s, 0, api.DoTrain, int(api.Soldier), 0)
	s = times(s, id, 12)
	if u := unit(t, s, id); u.Progress != 8 || u.Order != api.DoTrain || s.Players[0].Crystals != 50 {
		t.Errorf("%+v", u)
	}
	s.Units = s.Units.Drop(9)
	s = act.Act(s, id)
	if u := unit(t, s, 128+9); u.Kind != api.Soldier || u.Tile != 1 || !idle(unit(t, s, id)) {
		t.Errorf("%+v", u)
	}
}

// P13.1: research takes 20 ticks, and its player's tech is 1.
func TestResearch(t *testing.T) {
	s := game(t, "K...", "....", "....", "...k")
	id := on(t, &s, 0, api.DoResearch, 0, 0)
	s = times(s, id, 19)
	if u := unit(t, s, id); u.Progress != 19 || s.Players[0].Tech != 0 {
		t.Fatalf("%+v", u)
	}
	s = act.Act(s, id)
	if !idle(unit(t, s, id)) || s.Players[0].Tech != 1 || s.Players[1].Tech != 0 || s.Players[0].Crystals != 50 {
		t.Errorf("%+v", s.Players)
	}
}

// worth is all crystals, and what is made of them.
func worth(s world.State) int {
	n := 0
	for _, a := range s.Amounts {
		n += int(a)
	}
	for _, p := range s.Players {
		n += p.Crystals + rules.Study*p.Tech
	}
	for _, id := range s.Units.Ids() {
		u, _ := s.Units.Get(id)
		r, _ := rules.Of(u.Kind)
		n += u.Carry + order.Cost(u) + r.Cost
	}
	return n
}

// P13.2: no two units on one tile, all on Ground; crystals, and what was made of them, never grow.
func TestAny(t *testing.T) {
	rnd := rand.New(rand.NewSource(1))
	made := 0
	for range 12 {
		s := game(t, "BW.*..#S", "W..*....", "K.A..#..", "#......s", "..*...wb", "..w..a.k")
		for i := range s.Players {
			s.Players[i].Crystals, s.Players[i].Tech = rnd.Intn(200), rnd.Intn(2)
		}
		first := len(s.Units.Ids())
		for range 200 {
			for range rnd.Intn(4) {
				ids := s.Units.Ids()
				id, target := ids[rnd.Intn(len(ids))], ids[rnd.Intn(len(ids))]
				u, _ := s.Units.Get(id)
				s = order.Apply(s, api.Command{Player: u.Owner, Do: uint8(1 + rnd.Intn(7)), Unit: id, Tile: uint16(rnd.Intn(48)), Target: target, Kind: uint8(1 + rnd.Intn(5))})
			}
			for _, id := range s.Units.Ids() {
				was := s
				s = act.Act(s, id)
				if worth(s) > worth(was) {
					t.Fatalf("there is more than before: %d, %d", worth(s), worth(was))
				}
			}
			taken := map[int]bool{}
			for _, id := range s.Units.Ids() {
				u := unit(t, s, id)
				if taken[u.Tile] || !s.M.Walk(u.Tile) {
					t.Fatalf("where it may not stand: %+v", u)
				}
				taken[u.Tile] = true
			}
		}
		made += len(s.Units.Ids()) - first
	}
	if made == 0 {
		t.Error("nothing was made")
	}
}

// R3: the state that was handed in stays as it was, and no memory is shared.
func TestMemory(t *testing.T) {
	s := game(t, "A..s", "K...", "....", "....")
	shoots := on(t, &s, 0, api.DoAttack, 1, 0)
	room := make([]world.Bolt, 1, 9)
	s.Bolts = room
	studies := on(t, &s, 4, api.DoResearch, 0, 0)
	s = with(t, s, studies, func(u *world.Unit) { u.Progress = 19 })
	for _, id := range []uint16{shoots, studies, 99} {
		got := act.Act(s, id)
		got.Bolts[0].Damage, got.Players[0].Crystals = 77, 77
		if room[0].Damage != 0 || room[:2][1].Damage != 0 || s.Players[0].Tech != 0 || s.Players[0].Crystals != 50 || unit(t, s, id%3).Cool != 0 {
			t.Errorf("the unit %d: states share memory", id)
		}
	}
}
