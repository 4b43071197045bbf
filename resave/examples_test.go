package resave_test

import (
	"bytes"
	"slices"
	"testing"

	"rematch/api"
	"rematch/file"
	"rematch/fix"
	"rematch/log"
	"rematch/player"
	"rematch/record"
	"rematch/resave"
	"rematch/state"
	"rematch/track"
	"rematch/verify"
	"rematch/world"
)

// The ten examples of the whole, each by way of a recorded file and its player.

// film is a player of a game of these commands.
func film(t *testing.T, h api.Header, n, k, store int, l ...log.Entry) *player.Player {
	t.Helper()
	b, err := record.File(h, l, n, k, track.Track{})
	if err != api.OK {
		t.Fatal(err)
	}
	return watch(t, b, store)
}

// at is the state that a player shows at a tick.
func at(t *testing.T, p *player.Player, tick int) world.State {
	t.Helper()
	if err := p.Seek(tick); err != api.OK {
		t.Fatal(err)
	}
	b, err := p.Show()
	if err != api.OK {
		t.Fatal(err)
	}
	s, err := state.Take(p.File().Parts().Header, b)
	if err != api.OK || s.Tick != tick {
		t.Fatal(s.Tick, err)
	}
	return s
}

func unit(s world.State, id uint16) world.Unit {
	u, _ := s.Units.Get(id)
	return u
}

func TestExample1Harvest(t *testing.T) {
	h := drawn("B...W*", "......", "......", ".....s")
	p := film(t, h, 40, 8, 2, log.Entry{C: api.Command{Do: api.DoHarvest, Unit: 1, Tile: 5}})
	if s := at(t, p, 20); unit(s, 1).Carry != 5 || s.Amounts[5] != 95 || s.Players[0].Crystals != 50 {
		t.Errorf("behind 20 ticks: %+v", unit(s, 1))
	}
	if s := at(t, p, 30); unit(s, 1).Carry != 0 || s.Players[0].Crystals != 55 {
		t.Errorf("at home: %+v, %d", unit(s, 1), s.Players[0].Crystals)
	}
}

func TestExample2Barracks(t *testing.T) {
	h := drawn("W.....", "......", "......", ".....s")
	build := log.Entry{C: api.Command{Do: api.DoBuild, Unit: 0, Tile: 1, Kind: api.Barracks}}
	p := film(t, h, 20, 8, 2, build)
	if s := at(t, p, 1); s.Players[0].Crystals != 10 {
		t.Errorf("paid at once: %d", s.Players[0].Crystals)
	}
	if _, ok := at(t, p, 11).At(1); ok {
		t.Error("it stands too early")
	}
	s := at(t, p, 12)
	if id, ok := s.At(1); !ok || unit(s, id).Kind != api.Barracks || unit(s, id).HP != 40 || unit(s, 0).Order != 0 {
		t.Error("it does not stand")
	}
	p = film(t, h, 20, 8, 2, build, log.Entry{Tick: 6, C: api.Command{Do: api.DoGo, Unit: 0, Tile: 6}})
	if s := at(t, p, 7); s.Players[0].Crystals != 50 {
		t.Errorf("paid back: %d", s.Players[0].Crystals)
	}
	if _, ok := at(t, p, 20).At(1); ok {
		t.Error("it stands, though nobody built it")
	}
}

func TestExample3Bolt(t *testing.T) {
	h := drawn("A...s.", "......", "......", "......")
	p := film(t, h, 6, 8, 2,
		log.Entry{C: api.Command{Player: 0, Do: api.DoAttack, Unit: 0, Target: 1}},
		log.Entry{C: api.Command{Player: 1, Do: api.DoGo, Unit: 1, Tile: 10}})
	if s := at(t, p, 1); len(s.Bolts) != 1 || s.Bolts[0].At != fix.Middle(1, 0) || s.Bolts[0].Tile != 4 {
		t.Errorf("%+v", s.Bolts)
	}
	if s := at(t, p, 4); len(s.Bolts) != 0 || unit(s, 1).HP != 20 || unit(s, 1).Tile != 10 {
		t.Errorf("%+v, %+v", s.Bolts, unit(s, 1))
	}
}

func TestExample4Over(t *testing.T) {
	h := drawn("Sw....", "......", "......", "......")
	p := film(t, h, 30, 8, 2, log.Entry{C: api.Command{Do: api.DoAttack, Unit: 0, Target: 1}}, log.Entry{Tick: 20, C: api.Command{Do: api.DoGo, Unit: 0, Tile: 9}})
	end := at(t, p, 16)
	if !end.Over || !end.Players[1].Out || end.Players[0].Out || end.Count(1) != 0 {
		t.Fatalf("%v, %+v", end.Over, end.Players)
	}
	last := at(t, p, 30)
	last.Tick = 16
	if !bytes.Equal(state.Bytes(last), state.Bytes(end)) {
		t.Error("later ticks change more than the tick's number")
	}
}

func TestExample5And6Cost(t *testing.T) {
	p := film(t, war(), 100, 10, 1)
	shows := func(p *player.Player, keys, deltas int) {
		t.Helper()
		_, err := p.Show()
		if a, b := p.Cost(); err != api.OK || a != keys || b != deltas {
			t.Errorf("tick %d: %d, %d, %v", p.Tick(), a, b, err)
		}
	}
	p.Seek(57)
	shows(p, 1, 7)
	p.Step()
	shows(p, 0, 1)
	p.Seek(50)
	shows(p, 1, 0)
	p.Back()
	shows(p, 1, 9)
	p = film(t, war(), 100, 10, 2)
	p.Seek(49)
	shows(p, 1, 9)
	p.Step()
	shows(p, 1, 0)
	p.Back()
	shows(p, 0, 0)
}

func TestExample7Changed(t *testing.T) {
	b := build(t, recording(t, 9, 4))
	for i := range b {
		b[i] ^= 0x10
		if f, err := file.Open(b); err != api.ErrSum || f != nil {
			t.Fatalf("the byte %d: %v", i, err)
		}
		b[i] ^= 0x10
	}
}

func TestExample8False(t *testing.T) {
	x := recording(t, 9, 4)
	x.Log = append([]log.Entry{{C: api.Command{Do: api.DoGo, Unit: 2, Tile: 15}}}, x.Log...)
	b := build(t, x)
	if _, err := file.Open(b); err != api.OK {
		t.Errorf("it is not opened: %v", err)
	}
	if f, err := verify.Open(b); err != api.ErrFalse || f != nil {
		t.Errorf("it is believed: %v", err)
	}
}

// Two games that differ only where the player 0 does not see; P4: others' units there never appear.
func TestExample9Blind(t *testing.T) {
	h := drawn("BW..........", "............", "............", "...........s")
	one := film(t, h, 25, 4, 3)
	two := film(t, h, 25, 4, 3, log.Entry{C: api.Command{Player: 1, Do: api.DoGo, Unit: 2, Tile: 11}}, log.Entry{Tick: 12, C: api.Command{Player: 1, Do: api.DoGo, Unit: 2, Tile: 47}})
	differ := false
	for tick := range 26 {
		one.Seek(tick)
		two.Seek(tick)
		a, err := one.View(0)
		b, err2 := two.View(0)
		if err != api.OK || err2 != api.OK || !bytes.Equal(a, b) {
			t.Fatalf("tick %d: %v, %v", tick, err, err2)
		}
		a, _ = one.View(1)
		b, _ = two.View(1)
		differ = differ || !bytes.Equal(a, b)
	}
	if !differ {
		t.Error("the games do not differ")
	}
}

func TestExample10Bookmark(t *testing.T) {
	x := recording(t, 9, 4)
	p := watch(t, build(t, x), 2)
	p.Seek(5)
	p.Mark("here")
	q := watch(t, save(t, p), 2)
	want := []track.Mark{{Tick: 1, Name: "first"}, {Tick: 5, Name: "here"}}
	if !slices.Equal(q.Marks(), want) || !resave.Same(p, q) {
		t.Errorf("%v", q.Marks())
	}
	for tick, frame := range x.Frames {
		q.Seek(tick)
		if b, err := q.Show(); err != api.OK || !bytes.Equal(b, frame) {
			t.Errorf("tick %d: %v", tick, err)
		}
	}
	q.Unmark(1)
	if !bytes.Equal(save(t, q), build(t, x)) {
		t.Error("without it the file is another one")
	}
}
