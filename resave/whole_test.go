package resave_test

import (
	"bytes"
	"hash/crc32"
	"math/rand"
	"slices"
	"strings"
	"testing"

	"rematch/api"
	"rematch/file"
	"rematch/fix"
	"rematch/fog"
	"rematch/log"
	"rematch/player"
	"rematch/record"
	"rematch/resave"
	"rematch/state"
	"rematch/tick"
	"rematch/track"
	"rematch/verify"
	"rematch/wire"
	"rematch/world"
)

// anyHeader is a header that may be.
func anyHeader(rnd *rand.Rand) api.Header {
	h := api.Header{W: 4 + rnd.Intn(9), H: 4 + rnd.Intn(9), Players: 1 + rnd.Intn(4), Seed: uint32(rnd.Intn(3))}
	tiles := make([]byte, h.W*h.H)
	for i := range tiles {
		tiles[i] = byte(max(0, rnd.Intn(9)-6))
	}
	h.Tiles = string(tiles)
	for _, tile := range rnd.Perm(len(tiles))[:rnd.Intn(15)] {
		if tiles[tile] == api.Ground {
			h.Starts = append(h.Starts, api.Start{Owner: uint8(rnd.Intn(h.Players)), Kind: uint8(1 + rnd.Intn(5)), Tile: tile})
		}
	}
	return h
}

// anyLog is a log of commands, most of which could be obeyed.
func anyLog(rnd *rand.Rand, h api.Header, n int) []log.Entry {
	var l []log.Entry
	for at := range n {
		for range rnd.Intn(6) {
			c := api.Command{Player: uint8(rnd.Intn(5)), Do: uint8(rnd.Intn(9)), Unit: uint16(rnd.Intn(20)), Tile: uint16(rnd.Intn(len(h.Tiles) + 2)), Target: uint16(rnd.Intn(20)), Kind: uint8(rnd.Intn(7))}
			if i := int(c.Unit); i < len(h.Starts) {
				c.Player = h.Starts[i].Owner
			}
			l = append(l, log.Entry{Tick: at, C: c})
		}
	}
	return l
}

// anyTrack is a track of n ticks.
func anyTrack(rnd *rand.Rand, n int) track.Track {
	var t track.Track
	for i := range t.Cameras {
		for tick := range n + 1 {
			if rnd.Intn(9) == 0 && len(t.Cameras[i]) < api.MaxPoints {
				t.Cameras[i] = append(t.Cameras[i], track.Point{Tick: tick, At: fix.Point{X: fix.Num(rnd.Intn(16385)), Y: fix.Num(rnd.Intn(16385))}})
			}
		}
	}
	for range rnd.Intn(5) {
		t, _ = t.Add(track.Mark{Tick: rnd.Intn(n + 1), Name: strings.Repeat("m", rnd.Intn(41))}, n)
	}
	return t
}

// game is what a player is held against: all states of a game, a cursor, and a track.
type game struct {
	h      api.Header
	l      []log.Entry
	n, k   int
	t      track.Track
	states []world.State
	cursor int
}

func anyGame(t *testing.T, rnd *rand.Rand) *game {
	t.Helper()
	g := &game{h: anyHeader(rnd), n: rnd.Intn(40), k: []int{1, 2, 5, 16, 256}[rnd.Intn(5)]}
	g.l = anyLog(rnd, g.h, g.n)
	g.t = anyTrack(rnd, g.n)
	s, err := world.Begin(g.h)
	if err != api.OK {
		t.Fatal(err)
	}
	g.states = append(g.states, s)
	for at := range g.n {
		s = tick.Tick(s, log.At(g.l, at))
		g.states = append(g.states, s)
	}
	return g
}

func (g *game) file(t *testing.T) []byte {
	t.Helper()
	b, err := record.File(g.h, g.l, g.n, g.k, g.t)
	if err != api.OK {
		t.Fatal(err)
	}
	return b
}

// ask makes one request of a player, and of the game, and holds the answers against each other.
func (g *game) ask(t *testing.T, rnd *rand.Rand, p *player.Player) {
	t.Helper()
	i := rnd.Intn(8) - 2
	switch rnd.Intn(9) {
	case 0:
		to := rnd.Intn(g.n+5) - 2
		g.move(t, p.Seek(to), to)
	case 1:
		g.move(t, p.Step(), g.cursor+1)
	case 2:
		g.move(t, p.Back(), g.cursor-1)
	case 3:
		if b, err := p.Show(); err != api.OK || !bytes.Equal(b, state.Bytes(g.states[g.cursor])) {
			t.Fatalf("tick %d: %v", g.cursor, err)
		}
	case 4:
		want := fog.View(g.states[g.cursor], i)
		b, err := p.View(i)
		if there := i >= 0 && i < g.h.Players; !bytes.Equal(b, want) || there != (err == api.OK) || !there && err != api.ErrArg {
			t.Fatalf("tick %d, the player %d: %v", g.cursor, i, err)
		}
	case 5:
		want, err := g.t.Camera(i, g.cursor)
		if i >= g.h.Players {
			want, err = fix.Point{}, api.ErrArg
		}
		if at, err2 := p.Camera(i); at != want || err2 != err {
			t.Fatalf("tick %d, the camera %d: %v, %v", g.cursor, i, at, err2)
		}
	case 6:
		m := track.Mark{Tick: g.cursor, Name: strings.Repeat("x", rnd.Intn(44))}
		var want api.Errno
		if g.t, want = g.t.Add(m, g.n); p.Mark(m.Name) != want {
			t.Fatal("Mark")
		}
	case 7:
		var want api.Errno
		if g.t, want = g.t.Drop(i); p.Unmark(i) != want {
			t.Fatal("Unmark")
		}
	case 8:
		if i < 0 || i >= len(g.t.Marks) {
			if p.Goto(i) != api.ErrNone {
				t.Fatal("Goto nowhere")
			}
			break
		}
		g.move(t, p.Goto(i), g.t.Marks[i].Tick)
	}
	if p.Tick() != g.cursor || p.Ticks() != g.n || !slices.Equal(p.Marks(), g.t.Marks) {
		t.Fatalf("at %d, want %d", p.Tick(), g.cursor)
	}
	if keys, deltas := p.Cost(); keys > 1 || deltas > g.k-1 {
		t.Fatalf("the cost %d, %d", keys, deltas)
	}
}

// move holds an error against whether there is a tick.
func (g *game) move(t *testing.T, err api.Errno, to int) {
	t.Helper()
	want := api.OK
	if to < 0 || to > g.n {
		want = api.ErrRange
	} else {
		g.cursor = to
	}
	if err != want {
		t.Fatalf("to the tick %d: %v", to, err)
	}
}

// P1, P5: recorded and opened, each answer is that of a cursor over the game, at the cost of at most one keyframe and K less 1 differences.
func TestPlays(t *testing.T) {
	rnd := rand.New(rand.NewSource(1))
	for range 60 {
		g := anyGame(t, rnd)
		p := watch(t, g.file(t), []int{0, 1, 3, 64}[rnd.Intn(4)])
		for range 120 {
			g.ask(t, rnd, p)
		}
	}
}

// resealed changes bytes of a file, and makes its last checksum right again.
func resealed(rnd *rand.Rand, b []byte) []byte {
	b = bytes.Clone(b)
	for range 1 + rnd.Intn(3) {
		b[rnd.Intn(len(b)-4)] ^= byte(1 << rnd.Intn(8))
	}
	return wire.PutFixed(b[:len(b)-4], crc32.ChecksumIEEE(b[:len(b)-4]))
}

// tampered is a file of a recording that is changed in its parts, whose checksums are right.
func tampered(t *testing.T, rnd *rand.Rand, g *game) []byte {
	t.Helper()
	p := file.Parts{Header: g.h, Log: slices.Clone(g.l), N: g.n, K: g.k, Track: g.t}
	for _, s := range g.states {
		p.Frames = append(p.Frames, state.Bytes(s))
	}
	switch rnd.Intn(4) {
	case 0:
		frame := p.Frames[rnd.Intn(len(p.Frames))]
		frame[rnd.Intn(len(frame))] ^= byte(1 << rnd.Intn(8))
	case 1:
		if len(p.Log) > 0 {
			p.Log[rnd.Intn(len(p.Log))].C.Do++
		}
	case 2:
		p.Frames[rnd.Intn(len(p.Frames))] = make([]byte, rnd.Intn(300))
	}
	return build(t, p)
}

// P2: any bytes are refused, or opened, and then each request is answered; what the verifier accepts is a game.
func TestAnyBytes(t *testing.T) {
	rnd := rand.New(rand.NewSource(2))
	opened, believed := 0, 0
	for range 40 {
		g := anyGame(t, rnd)
		b := g.file(t)
		noise := make([]byte, rnd.Intn(200))
		rnd.Read(noise)
		for _, x := range [][]byte{noise, resealed(rnd, b), resealed(rnd, b), tampered(t, rnd, g), tampered(t, rnd, g), b} {
			f, err := file.Open(x)
			v, err2 := verify.Open(x)
			if (f == nil) != (err != api.OK) || (v == nil) != (err2 != api.OK) || err != api.OK && err2 != err {
				t.Fatalf("%v, %v", err, err2)
			}
			if f == nil {
				continue
			}
			opened++
			if v != nil {
				believed++
			}
			answers(t, f, v != nil)
		}
	}
	if opened < 80 || believed < 40 || believed == opened {
		t.Errorf("%d were opened, %d believed", opened, believed)
	}
}

// answers asks for all that a file has. Of one that was believed all is shown, and is its game's.
func answers(t *testing.T, f *file.File, believed bool) {
	t.Helper()
	parts := f.Parts()
	frames, err := record.Game(parts.Header, parts.Log, parts.N)
	if err != api.OK {
		t.Fatal(err)
	}
	p, _ := player.New(f, 3)
	for at := range parts.N + 1 {
		p.Seek(at)
		b, err := p.Show()
		if believed && (err != api.OK || !bytes.Equal(b, frames[at])) || err != api.OK && len(b) != 0 {
			t.Fatalf("tick %d: %v", at, err)
		}
		s, err2 := state.Take(parts.Header, b)
		if err == api.OK && err2 != api.OK {
			t.Fatalf("tick %d is shown, but no state", at)
		}
		for who := range parts.Header.Players {
			v, err2 := p.View(who)
			if err2 != err || err == api.OK && !bytes.Equal(v, fog.View(s, who)) {
				t.Fatalf("tick %d, the player %d: %v", at, who, err2)
			}
			p.Camera(who)
		}
	}
}

// P3: a file has just what was recorded; saved behind edits it is opened again, by the verifier, too, and answers as its player.
func TestBack(t *testing.T) {
	rnd := rand.New(rand.NewSource(3))
	for range 25 {
		g := anyGame(t, rnd)
		p := watch(t, g.file(t), 2)
		got := p.File().Parts()
		if got.N != g.n || got.K != g.k || !slices.Equal(got.Log, g.l) || got.Header.Tiles != g.h.Tiles || !slices.Equal(got.Header.Starts, g.h.Starts) || got.Header.Seed != g.h.Seed || got.Header.Players != g.h.Players || got.Header.W != g.h.W || got.Header.H != g.h.H {
			t.Fatalf("%+v", got)
		}
		for i := range g.t.Cameras {
			if !slices.Equal(got.Track.Cameras[i], g.t.Cameras[i]) {
				t.Fatal("cameras")
			}
		}
		for range 60 {
			g.ask(t, rnd, p)
		}
		f, err := verify.Open(save(t, p))
		if err != api.OK {
			t.Fatal(err)
		}
		q, _ := player.New(f, 5)
		if !resave.Same(p, q) {
			t.Fatal("not the same")
		}
		q.Seek(p.Tick())
		for range 60 {
			g.ask(t, rnd, q)
		}
	}
	p := watch(t, anyGame(t, rnd).file(t), 0)
	for len(p.Marks()) < api.MaxMarks {
		p.Mark("m")
	}
	full := p.Track()
	if p.Mark("m") != api.ErrFull || !slices.Equal(p.Marks(), full.Marks) {
		t.Error("one bookmark too many")
	}
}

// P4: what is shown hangs on the game alone: not on the keyframes, the store, or the way.
func TestAlike(t *testing.T) {
	rnd := rand.New(rand.NewSource(4))
	for range 15 {
		g := anyGame(t, rnd)
		var players []*player.Player
		for _, k := range []int{1, 3, 256} {
			for _, store := range []int{0, 2, 64} {
				b, err := record.File(g.h, g.l, g.n, k, g.t)
				if err != api.OK {
					t.Fatal(err)
				}
				players = append(players, watch(t, b, store))
			}
		}
		for range 30 {
			to, who := rnd.Intn(g.n+1), rnd.Intn(g.h.Players)
			want := fog.View(g.states[to], who)
			for _, p := range players {
				p.Seek(rnd.Intn(g.n + 1))
				p.Show()
				p.Seek(to)
				if v, err := p.View(who); err != api.OK || !bytes.Equal(v, want) {
					t.Fatalf("tick %d: %v", to, err)
				}
			}
		}
	}
}

// P5: a file is at most as great as what its chunks have, 16 bytes more for each of them, and 2 for each 5 bytes of a difference.
func TestSize(t *testing.T) {
	rnd := rand.New(rand.NewSource(5))
	for range 25 {
		g := anyGame(t, rnd)
		b := g.file(t)
		head, _ := log.Header(g.h)
		entries, _ := log.Put(g.l, g.n)
		looks, _ := g.t.Bytes(g.n)
		most := 4 + 8 + len(head) + 16 + 4 + 16 + len(entries) + 16 + len(looks) + 16 + 5*(g.n+1) + 16
		for at, s := range g.states {
			n := len(state.Bytes(s))
			if at%g.k != 0 {
				n += 2*(n/5) + 12
			}
			most += n + 16
		}
		if len(b) > most {
			t.Fatalf("%d bytes, at most %d", len(b), most)
		}
	}
}
