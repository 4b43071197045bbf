package tick_test

import (
	"math/rand"
	"testing"

	"rematch/api"
	"rematch/fix"
	"rematch/fog"
	"rematch/state"
	"rematch/tick"
	"rematch/world"
)

// strange is a state that may be, though no game comes to it: any kind has any order, with any way and progress.
func strange(rnd *rand.Rand, h api.Header) world.State {
	s, _ := world.Begin(h)
	s.Over, s.Rng = rnd.Intn(20) == 0, 1+uint32(rnd.Intn(99))
	tiles := s.M.Len()
	for _, id := range s.Units.Ids() {
		u, _ := s.Units.Get(id)
		u.HP = 1 + rnd.Intn(u.HP)
		u.Order = []uint8{0, api.DoGo, api.DoAttack, api.DoHarvest, api.DoBuild, api.DoTrain, api.DoResearch}[rnd.Intn(7)]
		u.Goal = rnd.Intn(tiles)
		switch u.Order {
		case api.DoBuild:
			u.What = uint8(1 + rnd.Intn(5))
		case api.DoTrain:
			u.Goal = 1 + rnd.Intn(5)
		case api.DoAttack:
			u.Goal = []int{rnd.Intn(16), rnd.Intn(65536)}[rnd.Intn(2)]
		}
		u.Progress, u.Carry, u.Cool = rnd.Intn(30), rnd.Intn(6), rnd.Intn(9)
		for range rnd.Intn(9) {
			u.Way[u.Steps] = uint16(rnd.Intn(tiles))
			u.Steps++
		}
		s.Units = s.Units.Set(id, u)
	}
	for range rnd.Intn(5) {
		s.Bolts = append(s.Bolts, world.Bolt{Owner: uint8(rnd.Intn(2)), At: fix.Point{X: fix.Num(rnd.Intn(8 * 256)), Y: fix.Num(rnd.Intn(6 * 256))}, Tile: rnd.Intn(tiles), Target: uint16(rnd.Intn(16)), Damage: rnd.Intn(9)})
	}
	return s
}

// R1, P14.1: states out of bytes, whatever their units were about to do, go on without a panic, and twice alike.
func TestStrange(t *testing.T) {
	rnd := rand.New(rand.NewSource(8))
	h := war()
	for range 60 {
		s := strange(rnd, h)
		taken, err := state.Take(h, state.Bytes(s))
		if err != api.OK || !same(taken, s) {
			t.Fatalf("it may not be: %v", err)
		}
		for range 30 {
			var l []api.Command
			for range rnd.Intn(3) {
				l = append(l, api.Command{Player: uint8(rnd.Intn(3)), Do: uint8(rnd.Intn(9)), Unit: uint16(rnd.Intn(20)), Tile: uint16(rnd.Intn(50)), Target: uint16(rnd.Intn(20)), Kind: uint8(rnd.Intn(7))})
			}
			next := tick.Tick(taken, l)
			if !same(next, tick.Tick(taken, l)) || !same(next, slow(taken, l)) {
				t.Fatal("not twice the same")
			}
			apart(t, next)
			fog.View(next, 0)
			state.Bytes(next)
			taken = next
		}
	}
}

// apart checks that no two stand on one tile, and that the dead are gone: that holds of strange states, too.
func apart(t *testing.T, s world.State) {
	t.Helper()
	taken := map[int]bool{}
	for _, id := range s.Units.Ids() {
		u, _ := s.Units.Get(id)
		if u.HP <= 0 && !s.Over || taken[u.Tile] {
			t.Fatalf("%+v", u)
		}
		taken[u.Tile] = true
	}
}
