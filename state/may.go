package state

import (
	"rematch/api"
	"rematch/fix"
	"rematch/grid"
	"rematch/rules"
	"rematch/wire"
	"rematch/world"
)

// Bounds of what a state may have.
const (
	mostGoal = 65535 // the greatest tile, id or kind
	mostByte = 255   // of progress, a wait and a damage
)

// within tells whether a number is from one to another one.
func within[T whole](n, least, most T) bool {
	return n >= least && n <= most
}

// May tells whether a state may be, of a header.
func May(h api.Header, s world.State) bool {
	if !world.May(h) {
		return false
	}
	m, _ := grid.New(h.W, h.H, h.Tiles)
	if s.M != m || len(s.Players) != h.Players || !within(s.Tick, 0, api.MaxTicks) || s.Rng == 0 {
		return false
	}
	for _, p := range s.Players {
		if !mayPlayer(m, p) {
			return false
		}
	}
	for tile, amount := range s.Amounts {
		if amount > rules.Amount || amount > 0 && m.Is(tile) != api.Crystal {
			return false
		}
	}
	for _, b := range s.Bolts {
		if !mayBolt(m, b, h.Players) {
			return false
		}
	}
	return mayUnits(&s)
}

func mayPlayer(m grid.Map, p world.Player) bool {
	w, h := m.Size()
	for y, row := range p.Explored {
		if y >= h && row != 0 || row>>w != 0 {
			return false
		}
	}
	return within(p.Crystals, 0, wire.MaxInt) && within(p.Tech, 0, 1)
}

func mayBolt(m grid.Map, b world.Bolt, players int) bool {
	w, h := m.Size()
	over := within(b.At.X, 0, fix.Num(w)*fix.One-1) && within(b.At.Y, 0, fix.Num(h)*fix.One-1)
	return int(b.Owner) < players && over && m.On(b.Tile) && within(b.Damage, 0, mostByte)
}

// mayUnits tells whether each unit may be, on a tile of its own.
func mayUnits(s *world.State) bool {
	var taken [api.MaxSide * api.MaxSide]bool
	for _, id := range s.Units.Ids() {
		u, _ := s.Units.Get(id)
		if int(u.Owner) >= len(s.Players) || !s.M.Walk(u.Tile) || taken[u.Tile] {
			return false
		}
		taken[u.Tile] = true
		if !mayOrder(s.M, u) || !mayWay(s.M, u) {
			return false
		}
		r, ok := rules.Of(u.Kind)
		if !ok || !within(u.HP, 1, r.HP) || !within(u.Carry, 0, rules.Carry) || !within(u.Cool, 0, mostByte) {
			return false
		}
	}
	return true
}

// mayOrder tells whether a unit's order, and what belongs to it, may be.
func mayOrder(m grid.Map, u world.Unit) bool {
	if u.Order != 0 && !within(u.Order, api.DoGo, api.DoResearch) {
		return false
	}
	if !within(u.Goal, 0, mostGoal) || !within(u.Progress, 0, mostByte) {
		return false
	}
	if u.Order != api.DoBuild && u.What != 0 {
		return false
	}
	switch u.Order {
	case api.DoGo, api.DoHarvest:
		return m.On(u.Goal)
	case api.DoBuild:
		return m.On(u.Goal) && isKind(int(u.What))
	case api.DoTrain:
		return isKind(u.Goal)
	}
	return true
}

func isKind(n int) bool {
	if n < 0 || n > mostByte {
		return false
	}
	_, ok := rules.Of(uint8(n))
	return ok
}

// mayWay tells whether the tiles that a unit knows of its way may be; behind them there is nothing.
func mayWay(m grid.Map, u world.Unit) bool {
	for i, tile := range u.Way {
		if i < int(u.Steps) && !m.On(int(tile)) || i >= int(u.Steps) && tile != 0 {
			return false
		}
	}
	return u.Steps <= world.Ahead
}
