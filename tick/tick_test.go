package tick_test

import (
	"math/rand"
	"slices"
	"strings"
	"testing"

	"rematch/act"
	"rematch/api"
	"rematch/fix"
	"rematch/order"
	"rematch/tick"
	"rematch/world"
)

// drawn is a header of a map that is drawn: '.' Ground, '#' Rock, '*' Crystal; units of the players 0 and 1 as letters (B, W, S, A, K; b, w, s, a, k).
func drawn(players int, rows ...string) api.Header {
	h := api.Header{W: len(rows[0]), H: len(rows), Players: players, Seed: 5}
	var tiles []byte
	for i, c := range strings.Join(rows, "") {
		tiles = append(tiles, uint8(max(0, strings.IndexRune(".#*", c))))
		if at := strings.IndexRune("BWSAKbwsak", c); at >= 0 {
			h.Starts = append(h.Starts, api.Start{Owner: uint8(at / 5), Kind: uint8(at%5 + 1), Tile: i})
		}
	}
	h.Tiles = string(tiles)
	return h
}

func war() api.Header {
	return drawn(2, "BW.*..#S", "W..*.A..", "K.A..#s.", "#....s.s", "..*...wb", "..w..a.k")
}

// game begins one on a map that is drawn.
func game(t *testing.T, players int, rows ...string) world.State {
	t.Helper()
	s, err := world.Begin(drawn(players, rows...))
	if err != api.OK {
		t.Fatal(err)
	}
	return s
}

func same(a, b world.State) bool {
	return a.M == b.M && a.Tick == b.Tick && a.Rng == b.Rng && a.Over == b.Over && a.Amounts == b.Amounts && slices.Equal(a.Players, b.Players) && a.Units == b.Units && slices.Equal(a.Bolts, b.Bolts)
}

func with(s world.State, id uint16, f func(u *world.Unit)) world.State {
	u, _ := s.Units.Get(id)
	f(&u)
	s.Units = s.Units.Set(id, u)
	return s
}

func hp(s world.State, id uint16) int {
	u, _ := s.Units.Get(id)
	return u.HP
}

func none(n int) [][]api.Command { return make([][]api.Command, n) }

// P14.1: each command is applied, in order, ahead of what units do.
func TestCommands(t *testing.T) {
	s := game(t, 2, "S...", "....", "....", "...s")
	l := []api.Command{
		{Player: 0, Do: api.DoGo, Unit: 0, Tile: 2},
		{Player: 1, Do: api.DoGo, Unit: 0, Tile: 3},
		{Player: 0, Do: api.DoGo, Unit: 0, Tile: 12},
		{Player: 9, Do: 99, Unit: 9},
	}
	got := tick.Tick(s, l)
	u, _ := got.Units.Get(0)
	if u.Goal != 12 || u.Progress != 1 || u.Steps != 3 || got.Tick != 1 {
		t.Errorf("%+v", u)
	}
	many := make([]api.Command, 100)
	for i := range many {
		many[i] = api.Command{Player: 0, Do: api.DoGo, Unit: 0, Tile: uint16(i % 16)}
	}
	if u, _ := tick.Tick(s, many).Units.Get(0); u.Goal != 3 {
		t.Errorf("a hundred commands: %+v", u)
	}
}

// P14.1: units act by slots, rising; who comes in a tick acts from the next one on.
func TestOrder(t *testing.T) {
	s := game(t, 2, "S.S.", "....", "....", "...s")
	l := []api.Command{{Do: api.DoGo, Unit: 0, Tile: 1}, {Do: api.DoGo, Unit: 1, Tile: 1}}
	got := tick.Run(s, [][]api.Command{l, nil})
	one, _ := got.Units.Get(0)
	two, _ := got.Units.Get(1)
	if one.Tile != 1 || two.Tile != 2 {
		t.Errorf("%+v, %+v", one, two)
	}
	trains := game(t, 2, "K...", "....", "....", "...s")
	trains = with(trains, 0, func(u *world.Unit) { u.Order, u.Goal, u.Progress = api.DoTrain, int(api.Soldier), 7 })
	got = tick.Tick(trains, []api.Command{{Do: api.DoGo, Unit: 2, Tile: 9}})
	u, ok := got.Units.Get(2)
	if !ok || u != (world.Unit{Kind: api.Soldier, Tile: 1, HP: 20}) {
		t.Errorf("%+v, %v", u, ok)
	}
}

// P14.1: a bolt flies by One toward its tile's middle, and hits who still stands there.
func TestBolt(t *testing.T) {
	s := game(t, 2, "A...s...", "........", "........", ".......s")
	s.Bolts = []world.Bolt{{Owner: 0, At: fix.Middle(0, 0), Tile: 4, Target: 1, Damage: 7}, {Owner: 0, At: fix.Middle(4, 1), Tile: 4, Target: 1, Damage: 2}}
	s = tick.Tick(s, nil)
	if want := []world.Bolt{{Owner: 0, At: fix.Middle(1, 0), Tile: 4, Target: 1, Damage: 7}}; !slices.Equal(s.Bolts, want) || hp(s, 1) != 18 {
		t.Fatalf("%+v, %d", s.Bolts, hp(s, 1))
	}
	s = tick.Run(s, none(2))
	if len(s.Bolts) != 1 || hp(s, 1) != 18 {
		t.Fatalf("%+v, %d", s.Bolts, hp(s, 1))
	}
	if hit := tick.Tick(s, nil); len(hit.Bolts) != 0 || hp(hit, 1) != 11 {
		t.Errorf("%+v, %d", hit.Bolts, hp(hit, 1))
	}
	aside := with(s, 1, func(u *world.Unit) { u.Tile = 5 })
	other := with(aside, 2, func(u *world.Unit) { u.Tile = 4 })
	if miss := tick.Tick(other, nil); len(miss.Bolts) != 0 || hp(miss, 1) != 18 || hp(miss, 2) != 20 {
		t.Errorf("who stepped aside: %+v, %d", miss.Bolts, hp(miss, 1))
	}
	gone := s
	gone.Units = gone.Units.Drop(1)
	if miss := tick.Tick(gone, nil); len(miss.Bolts) != 0 || miss.Units != gone.Units {
		t.Errorf("who is gone: %+v", miss.Bolts)
	}
}

// P14.1: an archer shoots at a soldier that steps aside: the bolt flies to where it stood, and hits nothing.
func TestStepAside(t *testing.T) {
	s := game(t, 2, "A...s...", "........", "........", "........")
	s = tick.Tick(s, []api.Command{{Player: 0, Do: api.DoAttack, Unit: 0, Target: 1}, {Player: 1, Do: api.DoGo, Unit: 1, Tile: 12}})
	if len(s.Bolts) != 1 || s.Bolts[0].At != fix.Middle(1, 0) || s.Bolts[0].Tile != 4 {
		t.Fatalf("%+v", s.Bolts)
	}
	s = tick.Run(s, none(3))
	if len(s.Bolts) != 0 || hp(s, 1) != 20 {
		t.Errorf("%+v, %d", s.Bolts, hp(s, 1))
	}
}

// P14.1: units without hit points strike no more, but stand there till all have acted; then they are taken away.
func TestBury(t *testing.T) {
	s := game(t, 2, "SsS.", "....", "....", "...s")
	s = with(s, 1, func(u *world.Unit) { u.HP, u.Order, u.Goal = 1, api.DoAttack, 0 })
	s = with(s, 0, func(u *world.Unit) { u.Order, u.Goal = api.DoAttack, 1 })
	s = with(s, 2, func(u *world.Unit) {
		u.Order, u.Goal, u.Steps, u.Way, u.Progress = api.DoGo, 1, 1, [8]uint16{1}, 1
	})
	got := tick.Tick(s, nil)
	_, there := got.Units.Get(1)
	u, _ := got.Units.Get(2)
	if there || hp(got, 0) != 20 || u.Tile != 2 || u.Steps != 0 || got.Units.Generation(1) != 1 || !got.Units.Free(1) {
		t.Errorf("%v, %d, %+v", there, hp(got, 0), u)
	}
}

// P14.1: what is seen behind the moves is explored.
func TestExplores(t *testing.T) {
	s := game(t, 2, "S.......", "........", "........", ".......s")
	if s.Explored(0, 5) {
		t.Fatal("too early")
	}
	s = tick.Run(s, [][]api.Command{{{Do: api.DoGo, Unit: 0, Tile: 1}}, nil})
	if !s.Explored(0, 5) || s.Explored(0, 6) || !s.Explored(0, 24) {
		t.Error("not what is seen")
	}
}

// P14.1: who has no unit is out, and stays so; over is a game of several players, of which at most one is not out.
func TestOut(t *testing.T) {
	three := game(t, 3, "S...", "....", "....", "...s")
	got := tick.Tick(three, nil)
	if got.Over || got.Players[0].Out || got.Players[1].Out || !got.Players[2].Out {
		t.Errorf("three: %v, %+v", got.Over, got.Players)
	}
	got.Units, _, _ = got.Units.Add(world.Unit{Kind: api.Worker, Owner: 2, Tile: 5, HP: 10})
	if got = tick.Tick(got, nil); !got.Players[2].Out {
		t.Error("who is out comes back")
	}
	alone := game(t, 1, "S...", "....", "....", "....")
	if got := tick.Run(alone, none(30)); got.Over || got.Players[0].Out {
		t.Error("one player alone is over")
	}
	empty := game(t, 1, "....", "....", "....", "....")
	if got := tick.Run(empty, none(3)); got.Over || !got.Players[0].Out {
		t.Error("one player without units")
	}
	if got := tick.Tick(game(t, 2, "....", "....", "....", "...."), nil); !got.Over || !got.Players[0].Out || !got.Players[1].Out {
		t.Error("two players without units")
	}
}

// P14.1: the last unit of one of two players dies: that player is out, and later ticks change nothing but the tick's number.
func TestOver(t *testing.T) {
	s := game(t, 2, "Ss..", "....", "....", "....")
	s = with(s, 1, func(u *world.Unit) { u.HP = 5 })
	s = tick.Tick(s, []api.Command{{Do: api.DoAttack, Unit: 0, Target: 1}})
	for i := 0; !s.Over && i < 9; i++ {
		s = tick.Tick(s, nil)
	}
	if !s.Over || !s.Players[1].Out || s.Players[0].Out || s.Count(1) != 0 {
		t.Fatalf("%v, %+v", s.Over, s.Players)
	}
	u, _ := s.Units.Get(0)
	later := tick.Tick(s, []api.Command{{Do: api.DoGo, Unit: 0, Tile: 9}})
	want := s
	want.Tick++
	if !same(later, want) || u.Cool == 0 {
		t.Errorf("%+v", later)
	}
	want.Tick += 7
	if !same(tick.Run(later, none(7)), want) {
		t.Error("what is over goes on")
	}
}

// P14.2: so many ticks as there are lists of commands.
func TestRun(t *testing.T) {
	s := game(t, 2, "S...", "....", "....", "...s")
	if !same(tick.Run(s, nil), s) || !same(tick.Run(s, [][]api.Command{}), s) {
		t.Error("no ticks")
	}
	l := [][]api.Command{{{Do: api.DoGo, Unit: 0, Tile: 3}}, nil, {{Player: 1, Do: api.DoAttack, Unit: 1, Target: 0}}, nil, nil}
	want := s
	for _, c := range l {
		want = tick.Tick(want, c)
	}
	if got := tick.Run(s, l); !same(got, want) || got.Tick != 5 {
		t.Errorf("%+v", got)
	}
	var zero world.State
	if got := tick.Tick(zero, []api.Command{{Do: api.DoStop}}); got.Tick != 1 || got.Over {
		t.Error("a zero state")
	}
}

// slow is a tick by the words of the chapter, without rows of steps.
func slow(s world.State, l []api.Command) world.State {
	if s.Over {
		s.Tick++
		return s
	}
	for _, c := range l {
		s = order.Apply(s, c)
	}
	for _, id := range s.Units.Ids() {
		s = act.Act(s, id)
	}
	bolts := s.Bolts
	s.Bolts = nil
	for _, b := range bolts {
		w, _ := s.M.Size()
		to := fix.Middle(b.Tile%w, b.Tile/w)
		var there bool
		if b.At, there = b.At.Toward(to, 256); !there {
			s.Bolts = append(s.Bolts, b)
		} else if id, ok := s.At(b.Tile); ok && id == b.Target {
			s = with(s, id, func(u *world.Unit) { u.HP -= b.Damage })
		}
	}
	for _, id := range s.Units.Ids() {
		if hp(s, id) < 1 {
			s.Units = s.Units.Drop(id)
		}
	}
	s = s.Explore()
	in := 0
	for i := range s.Players {
		s.Players[i].Out = s.Players[i].Out || s.Count(i) == 0
		if !s.Players[i].Out {
			in++
		}
	}
	s.Over = len(s.Players) >= 2 && in < 2
	s.Tick++
	return s
}

// P14.1, P14.3: of any commands, a tick is what its words come to, and behind it all is as it must be.
func TestAny(t *testing.T) {
	rnd := rand.New(rand.NewSource(1))
	for range 6 {
		s, _ := world.Begin(war())
		s.Players[0].Tech, s.Players[1].Tech = 1, 1
		for range 250 {
			var l []api.Command
			for range rnd.Intn(5) {
				ids := s.Units.Ids()
				id, target := ids[rnd.Intn(len(ids))], ids[rnd.Intn(len(ids))]
				u, _ := s.Units.Get(id)
				l = append(l, api.Command{Player: u.Owner, Do: uint8(1 + rnd.Intn(7)), Unit: id, Tile: uint16(rnd.Intn(48)), Target: target, Kind: uint8(1 + rnd.Intn(5))})
			}
			next := tick.Tick(s, l)
			if !same(next, slow(s, l)) || !same(next, tick.Tick(s, l)) {
				t.Fatal("not what the words come to, or not twice the same")
			}
			check(t, s, next)
			s = next
		}
	}
}

func check(t *testing.T, was, s world.State) {
	t.Helper()
	taken := map[int]bool{}
	for _, id := range s.Units.Ids() {
		u, _ := s.Units.Get(id)
		if u.HP <= 0 || taken[u.Tile] || !s.M.Walk(u.Tile) {
			t.Fatalf("%+v", u)
		}
		taken[u.Tile] = true
	}
	for i := range s.Players {
		if was.Players[i].Out && !s.Players[i].Out {
			t.Fatal("who is out comes back")
		}
	}
	if was.Over && !s.Over || s.Tick != was.Tick+1 {
		t.Fatal("what is over goes on, or the tick's number")
	}
}

// R3: the state that was handed in stays as it was, and no memory is shared.
func TestMemory(t *testing.T) {
	s := game(t, 2, "A..s", "....", "....", "....")
	s.Bolts = []world.Bolt{{At: fix.Middle(0, 0), Tile: 15, Damage: 1}}
	over := s
	over.Over = true
	for _, x := range []world.State{s, over} {
		for _, got := range []world.State{tick.Tick(x, nil), tick.Run(x, nil), tick.Run(x, none(2))} {
			got.Players[0].Crystals, got.Bolts[0].Damage, got.Players[1].Out = 77, 77, true
			if s.Players[0].Crystals != 50 || s.Bolts[0].Damage != 1 || s.Bolts[0].At != fix.Middle(0, 0) || s.Players[1].Out {
				t.Fatal("states share memory")
			}
		}
	}
}
