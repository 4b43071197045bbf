package record_test

import (
	"bytes"
	"math/rand"
	"slices"
	"strings"
	"testing"

	"rematch/api"
	"rematch/file"
	"rematch/fix"
	"rematch/log"
	"rematch/record"
	"rematch/state"
	"rematch/tick"
	"rematch/track"
	"rematch/world"
)

// drawn is a header of a map that is drawn: '.' Ground, '#' Rock, '*' Crystal; units of the players 0 and 1 as letters (B, W, S, A, K; b, w, s, a, k).
func drawn(rows ...string) api.Header {
	h := api.Header{W: len(rows[0]), H: len(rows), Players: 2, Seed: 5}
	var tiles []byte
	for i, c := range strings.Join(rows, "") {
		tiles = append(tiles, uint8(max(0, strings.IndexRune(".#*", c))))
		if at := strings.IndexRune("BWSAKbwsak", c); at >= 0 {
			h.Starts = append(h.Starts, api.Start{Owner: uint8(at / 5), Kind: uint8(at%5 + 1), Tile: i})
		}
	}
	h.Tiles = string(tiles)
	return h
}

func war() api.Header {
	return drawn("BW.*..#S", "W..*.A..", "K.A..#s.", "#....s.s", "..*...wb", "..w..a.k")
}

// some is a log of any commands, obeyed or not.
func some(rnd *rand.Rand, n int) []log.Entry {
	var l []log.Entry
	for at := range n {
		for range rnd.Intn(4) {
			l = append(l, log.Entry{Tick: at, C: api.Command{Player: uint8(rnd.Intn(3)), Do: uint8(rnd.Intn(9)), Unit: uint16(rnd.Intn(20)), Tile: uint16(rnd.Intn(50)), Target: uint16(rnd.Intn(20)), Kind: uint8(rnd.Intn(7))}})
		}
	}
	return l
}

func looks(n int) track.Track {
	t := track.Track{Marks: []track.Mark{{Tick: n, Name: "end"}}}
	t.Cameras[1] = []track.Point{{Tick: 0, At: fix.Point{X: 9, Y: 9}}}
	return t
}

// P21.1: the frames of a game are its states' bytes.
func TestGame(t *testing.T) {
	rnd := rand.New(rand.NewSource(1))
	for _, n := range []int{0, 1, 2, 60} {
		l := some(rnd, n)
		frames, err := record.Game(war(), l, n)
		if err != api.OK || len(frames) != n+1 {
			t.Fatalf("%d frames, %v", len(frames), err)
		}
		s, _ := world.Begin(war())
		for at, frame := range frames {
			if !bytes.Equal(frame, state.Bytes(s)) {
				t.Fatalf("tick %d is another one", at)
			}
			s = tick.Tick(s, log.At(l, at))
		}
	}
}

// P21.1: the example; the least game.
func TestLeast(t *testing.T) {
	h := api.Header{W: 4, H: 4, Players: 1, Tiles: strings.Repeat("\x00", 16)}
	s, _ := world.Begin(h)
	if frames, err := record.Game(h, nil, 0); err != api.OK || len(frames) != 1 || !bytes.Equal(frames[0], state.Bytes(s)) {
		t.Errorf("%d frames, %v", len(frames), err)
	}
	frames, err := record.Game(h, nil, api.MaxTicks)
	if err != api.OK || len(frames) != api.MaxTicks+1 {
		t.Fatalf("%d frames, %v", len(frames), err)
	}
	if last, err := state.Take(h, frames[api.MaxTicks]); err != api.OK || last.Tick != api.MaxTicks {
		t.Errorf("the last tick: %d, %v", last.Tick, err)
	}
}

// P21.1, P21.2: what is no game, and no file.
func TestFaults(t *testing.T) {
	late := []log.Entry{{Tick: 5}}
	for _, r := range []struct {
		name string
		h    api.Header
		l    []log.Entry
		n, k int
		t    track.Track
		game api.Errno
	}{
		{"a header", api.Header{}, nil, 5, 2, track.Track{}, api.ErrArg},
		{"ticks below 0", war(), nil, -1, 2, track.Track{}, api.ErrArg},
		{"ticks above", war(), nil, 4097, 2, track.Track{}, api.ErrArg},
		{"most of all ticks", war(), nil, 1<<63 - 1, 2, track.Track{}, api.ErrArg},
		{"a log", war(), late, 5, 2, track.Track{}, api.ErrArg},
		{"a log that falls", war(), []log.Entry{{Tick: 3}, {Tick: 2}}, 5, 2, track.Track{}, api.ErrArg},
		{"33 of one tick", war(), make([]log.Entry, 33), 5, 2, track.Track{}, api.ErrArg},
		{"keys 0 apart", war(), nil, 5, 0, track.Track{}, api.OK},
		{"keys too far apart", war(), nil, 5, 257, track.Track{}, api.OK},
		{"keys below 0 apart", war(), nil, 5, -1 << 63, track.Track{}, api.OK},
		{"a track", war(), nil, 5, 2, looks(6), api.OK},
	} {
		frames, err := record.Game(r.h, r.l, r.n)
		if err != r.game || err != api.OK && len(frames) != 0 {
			t.Errorf("%s: the game: %v", r.name, err)
		}
		if b, err := record.File(r.h, r.l, r.n, r.k, r.t); err != api.ErrArg || len(b) != 0 {
			t.Errorf("%s: the file: %v", r.name, err)
		}
	}
}

// P21.2, P21.3: the file is opened as just this game.
func TestFile(t *testing.T) {
	rnd := rand.New(rand.NewSource(2))
	for _, r := range [][2]int{{0, 1}, {1, 256}, {40, 1}, {50, 7}, {50, 256}} {
		n, k := r[0], r[1]
		l := some(rnd, n)
		b, err := record.File(war(), l, n, k, looks(n))
		if err != api.OK {
			t.Fatal(err)
		}
		frames, _ := record.Game(war(), l, n)
		if want, err := file.Build(file.Parts{Header: war(), Log: l, N: n, K: k, Track: looks(n), Frames: frames}); err != api.OK || !bytes.Equal(b, want) {
			t.Fatalf("%v: another file", r)
		}
		f, err := file.Open(b)
		if err != api.OK {
			t.Fatal(err)
		}
		p := f.Parts()
		if p.Header.Tiles != war().Tiles || !slices.Equal(p.Header.Starts, war().Starts) || p.Header.Seed != 5 || p.Header.Players != 2 || !slices.Equal(p.Log, l) || p.N != n || p.K != k {
			t.Fatalf("%v: %+v", r, p)
		}
		if !slices.Equal(p.Track.Marks, looks(n).Marks) || !slices.Equal(p.Track.Cameras[1], looks(n).Cameras[1]) {
			t.Fatalf("%v: %+v", r, p.Track)
		}
		for at, want := range frames {
			if got, err := f.Frame(at); err != api.OK || !bytes.Equal(got, want) {
				t.Fatalf("%v, tick %d: %v", r, at, err)
			}
		}
	}
}

// P21.2: a game whose file would have more than MaxFile bytes: many units, and each frame a key's.
func TestLimit(t *testing.T) {
	rnd := rand.New(rand.NewSource(3))
	h := api.Header{W: 64, H: 64, Players: 4, Tiles: strings.Repeat("\x00", 4096)}
	for _, tile := range rnd.Perm(4096)[:api.MaxUnits] {
		h.Starts = append(h.Starts, api.Start{Owner: uint8(rnd.Intn(4)), Kind: uint8(1 + rnd.Intn(5)), Tile: tile})
	}
	if b, err := record.File(h, nil, 1800, 1, track.Track{}); err != api.ErrLimit || len(b) != 0 {
		t.Errorf("%d bytes, %v", len(b), err)
	}
	if b, err := record.File(h, nil, 1800, 256, track.Track{}); err != api.OK || len(b) == 0 {
		t.Errorf("few keys: %v", err)
	}
}

// R2, R3: the same game twice; what is handed in is not changed.
func TestTwice(t *testing.T) {
	l := some(rand.New(rand.NewSource(4)), 30)
	keep := slices.Clone(l)
	h := war()
	one, _ := record.File(h, l, 30, 5, looks(30))
	two, _ := record.File(h, l, 30, 5, looks(30))
	if !bytes.Equal(one, two) || !slices.Equal(l, keep) || !slices.Equal(h.Starts, war().Starts) {
		t.Error("not twice the same, or an argument was changed")
	}
	frames, _ := record.Game(h, l, 30)
	clear(frames[3])
	again, _ := record.Game(h, l, 30)
	if bytes.Equal(frames[3], again[3]) {
		t.Error("frames are kept")
	}
}
