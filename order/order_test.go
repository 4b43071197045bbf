package order_test

import (
	"math/rand"
	"slices"
	"testing"

	"rematch/api"
	"rematch/order"
	"rematch/rules"
	"rematch/world"
)

// Ids of the units of field(), by their places in its header.
const (
	base uint16 = iota
	worker
	soldier
	archer
	barracks
	enemy
	foeBase
)

const rock, crystal, ground = 24, 23, 20

// field is a game of two players, with all kinds of units of the player 0.
func field(t *testing.T) world.State {
	t.Helper()
	tiles := []byte(string(make([]byte, 25)))
	tiles[rock], tiles[crystal] = api.Rock, api.Crystal
	h := api.Header{W: 5, H: 5, Players: 2, Seed: 1, Tiles: string(tiles)}
	for i, kind := range []uint8{api.Base, api.Worker, api.Soldier, api.Archer, api.Barracks} {
		h.Starts = append(h.Starts, api.Start{Owner: 0, Kind: kind, Tile: i})
	}
	h.Starts = append(h.Starts, api.Start{Owner: 1, Kind: api.Soldier, Tile: 10}, api.Start{Owner: 1, Kind: api.Base, Tile: 11})
	s, err := world.Begin(h)
	if err != api.OK {
		t.Fatal(err)
	}
	return s
}

func same(a, b world.State) bool {
	return a.M == b.M && a.Tick == b.Tick && a.Rng == b.Rng && a.Over == b.Over && a.Amounts == b.Amounts && slices.Equal(a.Players, b.Players) && a.Units == b.Units && slices.Equal(a.Bolts, b.Bolts)
}

func unit(t *testing.T, s world.State, id uint16) world.Unit {
	t.Helper()
	u, ok := s.Units.Get(id)
	if !ok {
		t.Fatalf("no unit %d", id)
	}
	return u
}

// with is a state in which a unit was changed.
func with(t *testing.T, s world.State, id uint16, f func(u *world.Unit)) world.State {
	t.Helper()
	u := unit(t, s, id)
	f(&u)
	s.Units = s.Units.Set(id, u)
	return s
}

// P12.1: what an order has cost.
func TestCost(t *testing.T) {
	for _, r := range []struct {
		u    world.Unit
		want int
	}{
		{world.Unit{Order: api.DoBuild, What: api.Barracks}, 40},
		{world.Unit{Order: api.DoBuild, What: api.Base}, 100},
		{world.Unit{Order: api.DoBuild, What: 0, Goal: int(api.Worker)}, 0},
		{world.Unit{Order: api.DoBuild, What: 6}, 0},
		{world.Unit{Order: api.DoTrain, Goal: int(api.Worker)}, 10},
		{world.Unit{Order: api.DoTrain, Goal: int(api.Archer)}, 25},
		{world.Unit{Order: api.DoTrain, Goal: 0, What: api.Base}, 0},
		{world.Unit{Order: api.DoTrain, Goal: 256 + int(api.Worker)}, 0},
		{world.Unit{Order: api.DoTrain, Goal: -254}, 0},
		{world.Unit{Order: api.DoTrain, Goal: 1<<63 - 1}, 0},
		{world.Unit{Order: api.DoResearch, Goal: 77}, 30},
		{world.Unit{Order: 0, Goal: 2, What: 2}, 0},
		{world.Unit{Order: api.DoGo, Goal: 2, What: 2}, 0},
		{world.Unit{Order: api.DoAttack, Goal: 2, What: 2}, 0},
		{world.Unit{Order: api.DoHarvest, Goal: 2, What: 2}, 0},
		{world.Unit{Order: api.DoStop, Goal: 2, What: 2}, 0},
		{world.Unit{Order: 8, Goal: 2, What: 2}, 0},
	} {
		if got := order.Cost(r.u); got != r.want {
			t.Errorf("%+v: %d, want %d", r.u, got, r.want)
		}
	}
}

// give is a command of the player 0.
func give(do uint8, id uint16, tile, target uint16, kind uint8) api.Command {
	return api.Command{Do: do, Unit: id, Tile: tile, Target: target, Kind: kind}
}

// P12.2: what is obeyed, and the order that a unit has then; what is not obeyed changes nothing.
func TestApply(t *testing.T) {
	rich := field(t)
	rich.Players[0].Crystals, rich.Players[0].Tech = 1000, 1
	early := field(t)
	early.Players[0].Crystals = 1000
	poor := field(t)
	poor.Players[0].Crystals, poor.Players[0].Tech = 24, 1
	short := field(t)
	short.Players[0].Crystals = 29
	just := field(t)
	just.Players[0].Crystals, just.Players[0].Tech = 25, 1
	low := field(t)
	low.Players[0].Crystals = 39
	at40 := field(t)
	at40.Players[0].Crystals = 40
	at30 := field(t)
	at30.Players[0].Crystals = 30
	busy := with(t, rich, base, func(u *world.Unit) { u.Order, u.Goal = api.DoTrain, 2 })
	studies := with(t, early, barracks, func(u *world.Unit) { u.Order = api.DoResearch })
	for _, r := range []struct {
		name  string
		s     world.State
		c     api.Command
		obeys bool
		order uint8
		goal  int
		what  uint8
	}{
		{"stop", rich, give(api.DoStop, worker, 9, 9, 9), true, 0, 0, 0},
		{"a building stops", rich, give(api.DoStop, base, 0, 0, 0), true, 0, 0, 0},
		{"go", rich, give(api.DoGo, soldier, ground, 9, 2), true, api.DoGo, ground, 0},
		{"go to a busy tile", rich, give(api.DoGo, soldier, 0, 0, 0), true, api.DoGo, 0, 0},
		{"a building goes", rich, give(api.DoGo, base, ground, 0, 0), false, 0, 0, 0},
		{"barracks go", rich, give(api.DoGo, barracks, ground, 0, 0), false, 0, 0, 0},
		{"go to a rock", rich, give(api.DoGo, soldier, rock, 0, 0), false, 0, 0, 0},
		{"go to a crystal", rich, give(api.DoGo, soldier, crystal, 0, 0), false, 0, 0, 0},
		{"go off the map", rich, give(api.DoGo, soldier, 25, 0, 0), false, 0, 0, 0},
		{"go far off the map", rich, give(api.DoGo, soldier, 65535, 0, 0), false, 0, 0, 0},
		{"attack", rich, give(api.DoAttack, soldier, 9, enemy, 2), true, api.DoAttack, int(enemy), 0},
		{"a worker attacks", rich, give(api.DoAttack, worker, 9, foeBase, 2), true, api.DoAttack, int(foeBase), 0},
		{"a base attacks", rich, give(api.DoAttack, base, 0, enemy, 0), false, 0, 0, 0},
		{"attack one's own", rich, give(api.DoAttack, soldier, 0, worker, 0), false, 0, 0, 0},
		{"attack oneself", rich, give(api.DoAttack, soldier, 0, soldier, 0), false, 0, 0, 0},
		{"attack nobody", rich, give(api.DoAttack, soldier, 0, 99, 0), false, 0, 0, 0},
		{"attack another generation", rich, give(api.DoAttack, soldier, 0, enemy+128, 0), false, 0, 0, 0},
		{"harvest", rich, give(api.DoHarvest, worker, crystal, 9, 2), true, api.DoHarvest, crystal, 0},
		{"a soldier harvests", rich, give(api.DoHarvest, soldier, crystal, 0, 0), false, 0, 0, 0},
		{"harvest ground", rich, give(api.DoHarvest, worker, ground, 0, 0), false, 0, 0, 0},
		{"harvest off the map", rich, give(api.DoHarvest, worker, 25, 0, 0), false, 0, 0, 0},
		{"build", rich, give(api.DoBuild, worker, ground, 9, api.Barracks), true, api.DoBuild, ground, api.Barracks},
		{"build with just enough", at40, give(api.DoBuild, worker, ground, 9, api.Barracks), true, api.DoBuild, ground, api.Barracks},
		{"build with too little", low, give(api.DoBuild, worker, ground, 0, api.Barracks), false, 0, 0, 0},
		{"build a base", rich, give(api.DoBuild, worker, ground, 0, api.Base), false, 0, 0, 0},
		{"build what is no kind", rich, give(api.DoBuild, worker, ground, 0, 0), false, 0, 0, 0},
		{"build on a rock", rich, give(api.DoBuild, worker, rock, 0, api.Barracks), false, 0, 0, 0},
		{"a soldier builds", rich, give(api.DoBuild, soldier, ground, 0, api.Barracks), false, 0, 0, 0},
		{"barracks build", rich, give(api.DoBuild, barracks, ground, 0, api.Soldier), false, 0, 0, 0},
		{"train", rich, give(api.DoTrain, base, 9, 9, api.Worker), true, api.DoTrain, int(api.Worker), 0},
		{"train an archer", just, give(api.DoTrain, barracks, 9, 9, api.Archer), true, api.DoTrain, int(api.Archer), 0},
		{"train an archer with too little", poor, give(api.DoTrain, barracks, 0, 0, api.Archer), false, 0, 0, 0},
		{"train an archer without tech", early, give(api.DoTrain, barracks, 0, 0, api.Archer), false, 0, 0, 0},
		{"train while training", busy, give(api.DoTrain, base, 0, 0, api.Worker), false, 0, 0, 0},
		{"a base trains a soldier", rich, give(api.DoTrain, base, 0, 0, api.Soldier), false, 0, 0, 0},
		{"a worker trains", rich, give(api.DoTrain, worker, 0, 0, api.Barracks), false, 0, 0, 0},
		{"research", at30, give(api.DoResearch, barracks, 9, 9, 2), true, api.DoResearch, 0, 0},
		{"research with too little", short, give(api.DoResearch, barracks, 0, 0, 0), false, 0, 0, 0},
		{"research again", rich, give(api.DoResearch, barracks, 0, 0, 0), false, 0, 0, 0},
		{"research while researching", studies, give(api.DoResearch, barracks, 0, 0, 0), false, 0, 0, 0},
		{"a base researches", early, give(api.DoResearch, base, 0, 0, 0), false, 0, 0, 0},
		{"nothing", rich, give(0, soldier, ground, 0, 0), false, 0, 0, 0},
		{"8", rich, give(8, soldier, ground, 0, 0), false, 0, 0, 0},
		{"255", rich, give(255, soldier, ground, 0, 0), false, 0, 0, 0},
	} {
		got := order.Apply(r.s, r.c)
		if !r.obeys {
			if !same(got, r.s) {
				t.Errorf("%s: it is obeyed", r.name)
			}
			continue
		}
		want := unit(t, r.s, r.c.Unit)
		want.Order, want.Goal, want.What = r.order, r.goal, r.what
		want.Progress, want.Way, want.Steps = 0, [world.Ahead]uint16{}, 0
		if u := unit(t, got, r.c.Unit); u != want {
			t.Errorf("%s: %+v", r.name, u)
		}
		if paid := r.s.Players[0].Crystals - got.Players[0].Crystals; paid != order.Cost(want)-order.Cost(unit(t, r.s, r.c.Unit)) {
			t.Errorf("%s: %d are paid", r.name, paid)
		}
	}
}

// P12.2: what is not heard changes nothing.
func TestHeard(t *testing.T) {
	s := field(t)
	go20 := give(api.DoGo, soldier, ground, 0, 0)
	over, out := s, s
	over.Over = true
	out.Players = slices.Clone(s.Players)
	out.Players[0].Out = true
	for name, r := range map[string]struct {
		s world.State
		c api.Command
	}{
		"it is over":        {over, go20},
		"the player is out": {out, go20},
		"no such player":    {s, api.Command{Player: 2, Do: api.DoGo, Unit: soldier, Tile: ground}},
		"the player 255":    {s, api.Command{Player: 255, Do: api.DoGo, Unit: soldier, Tile: ground}},
		"another's unit":    {s, api.Command{Player: 1, Do: api.DoGo, Unit: soldier, Tile: ground}},
		"no such unit":      {s, give(api.DoGo, 9, ground, 0, 0)},
		"of another time":   {s, give(api.DoGo, soldier+128, ground, 0, 0)},
		"a zero state":      {world.State{}, go20},
	} {
		if !same(order.Apply(r.s, r.c), r.s) {
			t.Errorf("%s: it is heard", name)
		}
	}
	if same(order.Apply(out, api.Command{Player: 1, Do: api.DoGo, Unit: enemy, Tile: ground}), out) {
		t.Error("who is not out is not heard")
	}
}

// P12.2: an order that is left is paid back, and the next one may be paid with that; the example.
func TestPaidBack(t *testing.T) {
	s := field(t)
	trained := order.Apply(s, give(api.DoTrain, base, 0, 0, api.Worker))
	if trained.Players[0].Crystals != 40 {
		t.Errorf("trained: %d", trained.Players[0].Crystals)
	}
	trained = with(t, trained, base, func(u *world.Unit) { u.Progress = 5 })
	stopped := order.Apply(trained, give(api.DoStop, base, 0, 0, 0))
	if stopped.Players[0].Crystals != 50 || !same(stopped, s) {
		t.Errorf("stopped: %d", stopped.Players[0].Crystals)
	}
	built := order.Apply(s, give(api.DoBuild, worker, ground, 0, api.Barracks))
	if built.Players[0].Crystals != 10 {
		t.Errorf("built: %d", built.Players[0].Crystals)
	}
	elsewhere := order.Apply(built, give(api.DoBuild, worker, ground+1, 0, api.Barracks))
	if u := unit(t, elsewhere, worker); elsewhere.Players[0].Crystals != 10 || u.Goal != ground+1 {
		t.Errorf("built elsewhere: %d, %+v", elsewhere.Players[0].Crystals, u)
	}
	gone := order.Apply(built, give(api.DoGo, worker, ground, 0, 0))
	if gone.Players[0].Crystals != 50 {
		t.Errorf("gone: %d", gone.Players[0].Crystals)
	}
}

// P12.2, P12.3: all else stays: hit points, what it carries, its wait; and its way is gone.
func TestStays(t *testing.T) {
	s := with(t, field(t), worker, func(u *world.Unit) {
		u.HP, u.Carry, u.Cool, u.Progress, u.Order, u.Goal, u.What = 3, 4, 2, 2, api.DoHarvest, crystal, 0
		u.Way, u.Steps = [world.Ahead]uint16{5, 6}, 2
	})
	s.Bolts = []world.Bolt{{Damage: 1}}
	got := order.Apply(s, give(api.DoGo, worker, ground, 0, 0))
	want := world.Unit{Kind: api.Worker, Tile: 1, HP: 3, Carry: 4, Cool: 2, Order: api.DoGo, Goal: ground}
	if u := unit(t, got, worker); u != want {
		t.Errorf("%+v", u)
	}
	if got.Units != s.Units.Set(worker, want) || !slices.Equal(got.Bolts, s.Bolts) || !slices.Equal(got.Players, s.Players) {
		t.Error("something else changed")
	}
}

// P12.3: crystals and what orders have cost, together, stay as much, player by player, and nothing goes below 0.
func TestAny(t *testing.T) {
	rnd := rand.New(rand.NewSource(1))
	s := field(t)
	obeyed := 0
	for i := range 6000 {
		if i%50 == 0 {
			s = field(t)
			s.Players[0].Crystals, s.Players[1].Crystals, s.Players[0].Tech = rnd.Intn(120), rnd.Intn(120), rnd.Intn(2)
		}
		c := api.Command{Player: uint8(rnd.Intn(3)), Do: uint8(rnd.Intn(9)), Unit: uint16(rnd.Intn(8)), Tile: uint16(rnd.Intn(27)), Target: uint16(rnd.Intn(8)), Kind: uint8(rnd.Intn(7))}
		got := order.Apply(s, c)
		if !same(got, s) {
			obeyed++
		}
		for p := range 2 {
			if worth(got, p) != worth(s, p) || got.Players[p].Crystals < 0 {
				t.Fatalf("%+v: the player %d has %d, had %d", c, p, worth(got, p), worth(s, p))
			}
		}
		want := s
		u, _ := got.Units.Get(c.Unit)
		was, _ := s.Units.Get(c.Unit)
		was.Order, was.Goal, was.What, was.Progress, was.Way, was.Steps = u.Order, u.Goal, u.What, u.Progress, u.Way, u.Steps
		want.Units = want.Units.Set(c.Unit, was)
		want.Players = slices.Clone(s.Players)
		if int(c.Player) < 2 {
			want.Players[c.Player].Crystals = got.Players[c.Player].Crystals
		}
		if !same(got, want) {
			t.Fatalf("%+v changes something else", c)
		}
		s = got
	}
	if obeyed < 100 {
		t.Errorf("only %d were obeyed", obeyed)
	}
}

func worth(s world.State, player int) int {
	n := s.Players[player].Crystals
	for _, id := range s.Units.Ids() {
		if u, _ := s.Units.Get(id); int(u.Owner) == player {
			n += order.Cost(u)
		}
	}
	return n
}

// R3: the state that was handed in stays as it was, and no memory is shared, obeyed or not.
func TestMemory(t *testing.T) {
	s := field(t)
	s.Bolts = []world.Bolt{{Damage: 1}}
	for _, c := range []api.Command{give(api.DoTrain, base, 0, 0, api.Worker), give(0, 0, 0, 0, 0)} {
		got := order.Apply(s, c)
		got.Players[1].Crystals, got.Bolts[0].Damage = 77, 77
		if s.Players[0].Crystals != rules.First || s.Players[1].Crystals != rules.First || s.Bolts[0].Damage != 1 || unit(t, s, base).Order != 0 {
			t.Errorf("Do %d: states share memory", c.Do)
		}
	}
}
