package state

import (
	"rematch/api"
	"rematch/arena"
	"rematch/grid"
	"rematch/wire"
	"rematch/world"
)

// taker reads a state. What a reader refuses is its error; what it reads, but no state has, is wrong, and is told only behind that.
type taker struct {
	*wire.Reader
	wrong bool
}

// into reads varints into places, one behind the other.
func into[T whole](t *taker, places ...*T) {
	for _, p := range places {
		n := t.Num()
		*p = T(n)
		if *p < 0 || uint64(*p) != n {
			t.wrong = true
		}
	}
}

// is reads 1, if it is so, or 0.
func (t *taker) is() bool {
	n := t.Num()
	if n > 1 {
		t.wrong = true
	}
	return n == 1
}

// reads tells whether there was no fault yet.
func (t *taker) reads() bool {
	return t.Err() == api.OK
}

// Take is the state of bytes.
func Take(h api.Header, b []byte) (world.State, api.Errno) {
	if !world.May(h) {
		return world.State{}, api.ErrArg
	}
	m, _ := grid.New(h.W, h.H, h.Tiles)
	t := &taker{Reader: wire.Of(b)}
	s := world.State{M: m}
	into(t, &s.Tick)
	s.Rng = t.Fixed()
	s.Over = t.is()
	s.Players = t.players(h.H)
	for tile := range m.Len() {
		if m.Is(tile) == api.Crystal {
			into(t, &s.Amounts[tile])
		}
	}
	s.Units = t.units()
	s.Bolts = t.bolts()
	if err := t.End(); err != api.OK {
		return world.State{}, err
	}
	if t.wrong || !May(h, s) {
		return world.State{}, api.ErrForm
	}
	return s, api.OK
}

// players reads players on a map of so many rows. More than there may be are read, but not kept.
func (t *taker) players(rows int) []world.Player {
	var out []world.Player
	n := t.Num()
	for i := uint64(0); i < n && t.reads(); i++ {
		var p world.Player
		into(t, &p.Crystals, &p.Tech)
		p.Out = t.is()
		for y := range rows {
			into(t, &p.Explored[y])
		}
		if i >= api.MaxPlayers {
			t.wrong = true
			continue
		}
		out = append(out, p)
	}
	return out
}

// units reads all slots.
func (t *taker) units() arena.Arena[world.Unit] {
	generations := make([]int, api.MaxUnits)
	things := map[int]world.Unit{}
	for slot := range generations {
		n := t.Num()
		generations[slot] = int(n / 2)
		if n%2 == 1 {
			things[slot] = t.unit()
		}
	}
	units, ok := arena.Of(generations, things)
	if !ok {
		t.wrong = true
	}
	return units
}

func (t *taker) unit() world.Unit {
	var u world.Unit
	into(t, &u.Kind, &u.Owner)
	into(t, &u.Tile, &u.HP)
	into(t, &u.Order)
	into(t, &u.Goal)
	into(t, &u.What)
	into(t, &u.Progress, &u.Carry, &u.Cool)
	n := t.Num()
	for i := uint64(0); i < n && t.reads(); i++ {
		var tile uint16
		into(t, &tile)
		if i >= world.Ahead {
			t.wrong = true
			continue
		}
		u.Way[i], u.Steps = tile, uint8(i+1)
	}
	return u
}

func (t *taker) bolts() []world.Bolt {
	var out []world.Bolt
	n := t.Num()
	for i := uint64(0); i < n && t.reads(); i++ {
		var b world.Bolt
		into(t, &b.Owner)
		into(t, &b.At.X, &b.At.Y)
		into(t, &b.Tile)
		into(t, &b.Target)
		into(t, &b.Damage)
		out = append(out, b)
	}
	return out
}
