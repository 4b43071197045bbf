package resave_test

import (
	"bytes"
	"hash/crc32"
	"math/rand"
	"slices"
	"strings"
	"testing"

	"rematch/api"
	"rematch/chunk"
	"rematch/delta"
	"rematch/file"
	"rematch/fix"
	"rematch/log"
	"rematch/player"
	"rematch/record"
	"rematch/resave"
	"rematch/track"
	"rematch/verify"
	"rematch/wire"
)

// drawn is a header of a map that is drawn: '.' Ground, '#' Rock, '*' Crystal; units of the players 0 and 1 as letters (B, W, S, A, K; b, w, s, a, k).
func drawn(rows ...string) api.Header {
	h := api.Header{W: len(rows[0]), H: len(rows), Players: 2, Seed: 5}
	var tiles []byte
	for i, c := range strings.Join(rows, "") {
		tiles = append(tiles, uint8(max(0, strings.IndexRune(".#*", c))))
		if at := strings.IndexRune("BWSAKbwsak", c); at >= 0 {
			h.Starts = append(h.Starts, api.Start{Owner: uint8(at / 5), Kind: uint8(at%5 + 1), Tile: i})
		}
	}
	h.Tiles = string(tiles)
	return h
}

func war() api.Header {
	return drawn("BW.*..#S", "W..*.A..", "K.A..#s.", "#....s.s", "..*...wb", "..w..a.k")
}

// recording is a game of war, with a camera and a bookmark.
func recording(t *testing.T, n, k int) file.Parts {
	t.Helper()
	rnd := rand.New(rand.NewSource(7))
	l := []log.Entry{}
	for at := range n {
		for range rnd.Intn(5) {
			l = append(l, log.Entry{Tick: at, C: api.Command{Player: uint8(rnd.Intn(2)), Do: uint8(1 + rnd.Intn(7)), Unit: uint16(rnd.Intn(16)), Tile: uint16(rnd.Intn(48)), Target: uint16(rnd.Intn(16)), Kind: uint8(1 + rnd.Intn(5))}})
		}
	}
	frames, err := record.Game(war(), l, n)
	if err != api.OK {
		t.Fatal(err)
	}
	x := track.Track{Marks: []track.Mark{{Tick: 1, Name: "first"}}}
	x.Cameras[0] = []track.Point{{Tick: 0, At: fix.Point{X: 100, Y: 200}}}
	return file.Parts{Header: war(), Log: l, N: n, K: k, Track: x, Frames: frames}
}

func build(t *testing.T, p file.Parts) []byte {
	t.Helper()
	b, err := file.Build(p)
	if err != api.OK {
		t.Fatal(err)
	}
	return b
}

// watch is a player of a file's bytes.
func watch(t *testing.T, b []byte, store int) *player.Player {
	t.Helper()
	f, err := file.Open(b)
	if err != api.OK {
		t.Fatal(err)
	}
	p, err := player.New(f, store)
	if err != api.OK {
		t.Fatal(err)
	}
	return p
}

func save(t *testing.T, p *player.Player) []byte {
	t.Helper()
	b, err := resave.Save(p)
	if err != api.OK {
		t.Fatal(err)
	}
	return b
}

// P24.1: the file, with the player's track in place of its own.
func TestSave(t *testing.T) {
	x := recording(t, 12, 5)
	p := watch(t, build(t, x), 4)
	if got := save(t, p); !bytes.Equal(got, build(t, x)) {
		t.Error("nothing was edited, and it is another file")
	}
	p.Seek(7)
	p.Mark("seven")
	p.Unmark(0)
	x.Track.Marks = []track.Mark{{Tick: 7, Name: "seven"}}
	if got := save(t, p); !bytes.Equal(got, build(t, x)) {
		t.Error("not the file with the player's track")
	}
	if b, err := resave.Save(nil); err != api.ErrNil || len(b) != 0 {
		t.Errorf("no player: %v", err)
	}
}

// P24.1: a file that has no room for a bookmark more.
func TestSaveLimit(t *testing.T) {
	rnd := rand.New(rand.NewSource(1))
	x := file.Parts{Header: war(), N: 32, K: 1}
	for range 32 {
		frame := make([]byte, file.MaxFrame-500)
		rnd.Read(frame)
		x.Frames = append(x.Frames, frame)
	}
	x.Frames = append(x.Frames, make([]byte, 1000))
	grown := make([]byte, 30000)
	rnd.Read(grown)
	x.Frames[32] = grown[:api.MaxFile-len(build(t, x))]
	x.Frames[32] = grown[:len(x.Frames[32])+api.MaxFile-len(build(t, x))]
	p := watch(t, build(t, x), 0)
	if p.File().Size() != api.MaxFile {
		t.Fatal(p.File().Size())
	}
	if p.Mark("too much") != api.OK {
		t.Fatal("Mark")
	}
	if b, err := resave.Save(p); err != api.ErrLimit || len(b) != 0 {
		t.Errorf("%d bytes, %v", len(b), err)
	}
	p.Unmark(0)
	if len(save(t, p)) != api.MaxFile {
		t.Error("without it")
	}
}

// P24.2: what two players must have alike, and what they need not.
func TestSame(t *testing.T) {
	base := func() file.Parts { return recording(t, 6, 3) }
	one := watch(t, build(t, base()), 3)
	same := watch(t, build(t, base()), 0)
	same.Seek(4)
	same.Show()
	if !resave.Same(one, same) || !resave.Same(one, one) || !resave.Same(nil, nil) || resave.Same(one, nil) || resave.Same(nil, one) {
		t.Error("the same game, or nil")
	}
	frames := base()
	frames.Frames[3] = []byte("whatever")
	if !resave.Same(one, watch(t, build(t, frames), 3)) {
		t.Error("frames are compared")
	}
	for name, change := range map[string]func(p *file.Parts){
		"W, H":         func(p *file.Parts) { p.Header.W, p.Header.H = 6, 8 },
		"players":      func(p *file.Parts) { p.Header.Players = 3 },
		"seed":         func(p *file.Parts) { p.Header.Seed = 6 },
		"tiles":        func(p *file.Parts) { p.Header.Tiles = p.Header.Tiles[:2] + "\x01" + p.Header.Tiles[3:] },
		"a start":      func(p *file.Parts) { p.Header.Starts[0].Kind = api.Worker },
		"starts":       func(p *file.Parts) { p.Header.Starts = p.Header.Starts[1:] },
		"ticks":        func(p *file.Parts) { p.N, p.Log, p.Frames = 5, p.Log[:2], p.Frames[:6] },
		"keys":         func(p *file.Parts) { p.K = 4 },
		"log":          func(p *file.Parts) { p.Log = p.Log[1:] },
		"a command":    func(p *file.Parts) { p.Log[2].C.Kind++ },
		"bookmarks":    func(p *file.Parts) { p.Track.Marks = nil },
		"a bookmark":   func(p *file.Parts) { p.Track.Marks[0].Name = "other" },
		"a point":      func(p *file.Parts) { p.Track.Cameras[0][0].At.X++ },
		"more points":  func(p *file.Parts) { p.Track.Cameras[3] = p.Track.Cameras[0] },
		"other player": func(p *file.Parts) { p.Track.Cameras[0], p.Track.Cameras[1] = nil, p.Track.Cameras[0] },
	} {
		p := base()
		change(&p)
		other := watch(t, build(t, p), 3)
		if resave.Same(one, other) || resave.Same(other, one) {
			t.Errorf("%s: they are the same", name)
		}
	}
	same.Mark("more")
	if resave.Same(one, same) {
		t.Error("a player's own bookmark")
	}
	same.Unmark(1)
	if !resave.Same(one, same) {
		t.Error("a bookmark that was taken away again")
	}
}

// wrong is the file of a recording, in which the difference of the tick 6 ends too soon, and the key of 8 is no state.
func wrong(t *testing.T, x file.Parts) []byte {
	t.Helper()
	head, _ := log.Header(x.Header)
	entries, _ := log.Put(x.Log, x.N)
	looks, _ := x.Track.Bytes(x.N)
	b := chunk.Put([]byte("RMCH"), file.Head, head)
	b = chunk.Put(b, file.Span, append(wire.Put(nil, uint64(x.N)), wire.Put(nil, uint64(x.K))...))
	b = chunk.Put(chunk.Put(b, file.Log, entries), file.Track, looks)
	var index []byte
	last := 0
	for tick, frame := range x.Frames {
		index = wire.Put(index, uint64(len(b)-last))
		last = len(b)
		switch {
		case tick == 6:
			b = chunk.Put(b, file.Delta, []byte("\x05\x01"))
		case tick == 8:
			b = chunk.Put(b, file.Key, []byte("no state"))
		case tick%x.K == 0:
			b = chunk.Put(b, file.Key, frame)
		default:
			b = chunk.Put(b, file.Delta, delta.Diff(x.Frames[tick-1], frame))
		}
	}
	at := len(b)
	b = wire.PutFixed(chunk.Put(b, file.Index, index), uint32(at))
	return wire.PutFixed(b, crc32.ChecksumIEEE(b))
}

// P24.3: what is saved is opened with the player's track, all frames are as they were, or fail as they did; saved twice it is the same.
func TestSaved(t *testing.T) {
	x := recording(t, 14, 4)
	for name, b := range map[string][]byte{"true": build(t, x), "wrong": wrong(t, x)} {
		p := watch(t, b, 4)
		p.Seek(9)
		for i := range 9 {
			p.Mark(strings.Repeat("n", i))
		}
		saved := save(t, p)
		q := watch(t, saved, 0)
		if !resave.Same(p, q) || !slices.Equal(q.Marks(), p.Marks()) || len(q.Marks()) != 10 {
			t.Errorf("%s: %v", name, q.Marks())
		}
		for tick := range 15 {
			one, err := p.File().Frame(tick)
			two, err2 := q.File().Frame(tick)
			if err != err2 || !bytes.Equal(one, two) {
				t.Errorf("%s, tick %d: %v, %v", name, tick, err, err2)
			}
			p.Seek(tick)
			q.Seek(tick)
			one, err = p.Show()
			two, err2 = q.Show()
			if err != err2 || !bytes.Equal(one, two) || (name == "true") != (err == api.OK) && tick == 6 {
				t.Errorf("%s, tick %d is shown: %v, %v", name, tick, err, err2)
			}
		}
		if !bytes.Equal(save(t, p), saved) || !bytes.Equal(save(t, q), saved) {
			t.Errorf("%s: saved twice it is another one", name)
		}
		_, err := verify.Open(b)
		_, err2 := verify.Open(saved)
		if err != err2 || (name == "true") != (err == api.OK) {
			t.Errorf("%s: verified: %v, %v", name, err, err2)
		}
	}
}
