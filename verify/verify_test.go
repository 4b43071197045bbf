package verify_test

import (
	"bytes"
	"hash/crc32"
	"math/rand"
	"strings"
	"testing"

	"rematch/api"
	"rematch/chunk"
	"rematch/delta"
	"rematch/file"
	"rematch/log"
	"rematch/record"
	"rematch/track"
	"rematch/verify"
	"rematch/wire"
)

// drawn is a header of a map that is drawn: '.' Ground, '#' Rock, '*' Crystal; units of the players 0 and 1 as letters (B, W, S, A, K; b, w, s, a, k).
func drawn(rows ...string) api.Header {
	h := api.Header{W: len(rows[0]), H: len(rows), Players: 2, Seed: 5}
	var tiles []byte
	for i, c := range strings.Join(rows, "") {
		tiles = append(tiles, uint8(max(0, strings.IndexRune(".#*", c))))
		if at := strings.IndexRune("BWSAKbwsak", c); at >= 0 {
			h.Starts = append(h.Starts, api.Start{Owner: uint8(at / 5), Kind: uint8(at%5 + 1), Tile: i})
		}
	}
	h.Tiles = string(tiles)
	return h
}

func war() api.Header {
	return drawn("BW.*..#S", "W..*.A..", "K.A..#s.", "#....s.s", "..*...wb", "..w..a.k")
}

func some(rnd *rand.Rand, n int) []log.Entry {
	var l []log.Entry
	for at := range n {
		for range rnd.Intn(4) {
			l = append(l, log.Entry{Tick: at, C: api.Command{Player: uint8(rnd.Intn(3)), Do: uint8(rnd.Intn(9)), Unit: uint16(rnd.Intn(20)), Tile: uint16(rnd.Intn(50)), Target: uint16(rnd.Intn(20)), Kind: uint8(rnd.Intn(7))}})
		}
	}
	return l
}

// recording is a game of war, that may be changed ahead of its being built.
func recording(t *testing.T, n, k int) file.Parts {
	t.Helper()
	var l []log.Entry
	if n > 0 {
		l = append(l, log.Entry{C: api.Command{Do: api.DoHarvest, Unit: 1, Tile: 3}})
	}
	l = append(l, some(rand.New(rand.NewSource(7)), n)...)
	frames, err := record.Game(war(), l, n)
	if err != api.OK {
		t.Fatal(err)
	}
	return file.Parts{Header: war(), Log: l, N: n, K: k, Frames: frames}
}

func build(t *testing.T, p file.Parts) []byte {
	t.Helper()
	b, err := file.Build(p)
	if err != api.OK {
		t.Fatal(err)
	}
	return b
}

// P22.1, P22.2: what was recorded is true, and each of its frames is the game's.
func TestTrue(t *testing.T) {
	rnd := rand.New(rand.NewSource(1))
	for _, r := range [][2]int{{0, 1}, {1, 1}, {40, 6}, {40, 256}} {
		l := some(rnd, r[0])
		b, err := record.File(war(), l, r[0], r[1], track.Track{Marks: []track.Mark{{Tick: 0, Name: "x"}}})
		if err != api.OK {
			t.Fatal(err)
		}
		f, err := verify.Open(b)
		if err != api.OK || f.Size() != len(b) {
			t.Fatalf("%v: %v", r, err)
		}
		frames, _ := record.Game(war(), l, r[0])
		for tick, want := range frames {
			if got, err := f.Frame(tick); err != api.OK || !bytes.Equal(got, want) {
				t.Fatalf("%v, tick %d: %v", r, tick, err)
			}
		}
	}
}

// P22.1: what Open of a file refuses, with its error.
func TestRefused(t *testing.T) {
	b := build(t, recording(t, 6, 3))
	changed := bytes.Clone(b)
	changed[len(b)/2] ^= 1
	for _, x := range [][]byte{nil, b[:11], b[:len(b)-1], changed, make([]byte, api.MaxFile+1)} {
		_, want := file.Open(x)
		if f, err := verify.Open(x); err != want || err == api.OK || f != nil {
			t.Errorf("%d bytes: %v, want %v", len(x), err, want)
		}
	}
}

// P22.1: files that are opened, but are not what their log comes to.
func TestFalse(t *testing.T) {
	for name, change := range map[string]func(p *file.Parts){
		"a command more": func(p *file.Parts) {
			p.Log = append([]log.Entry{{C: api.Command{Do: api.DoGo, Unit: 2, Tile: 15}}}, p.Log...)
		},
		"no commands":       func(p *file.Parts) { p.Log = nil },
		"another seed":      func(p *file.Parts) { p.Header.Seed++ },
		"a crystal more":    func(p *file.Parts) { p.Header.Tiles = p.Header.Tiles[:46] + "\x02" + p.Header.Tiles[47:] },
		"a unit less":       func(p *file.Parts) { p.Header.Starts = p.Header.Starts[1:] },
		"the first frame":   func(p *file.Parts) { p.Frames[0] = append(bytes.Clone(p.Frames[0]), 0) },
		"the last frame":    func(p *file.Parts) { p.Frames[p.N] = p.Frames[p.N-1] },
		"an empty frame":    func(p *file.Parts) { p.Frames[9] = nil },
		"a frame's byte":    func(p *file.Parts) { p.Frames[9] = bytes.Clone(p.Frames[9]); p.Frames[9][20] ^= 1 },
		"two frames turned": func(p *file.Parts) { p.Frames[9], p.Frames[10] = p.Frames[10], p.Frames[9] },
		"frames, none":      func(p *file.Parts) { p.Frames = make([][]byte, p.N+1) },
	} {
		p := recording(t, 20, 6)
		change(&p)
		b := build(t, p)
		if _, err := file.Open(b); err != api.OK {
			t.Errorf("%s: not even opened: %v", name, err)
		}
		if f, err := verify.Open(b); err != api.ErrFalse || f != nil {
			t.Errorf("%s: %v", name, err)
		}
	}
}

// P22.1: what is not heard in the game may be in its log: it is another game, but no false one.
func TestOtherGame(t *testing.T) {
	p := recording(t, 20, 6)
	p.Log = append([]log.Entry{{C: api.Command{Player: 77}}}, p.Log...)
	if _, err := verify.Open(build(t, p)); err != api.OK {
		t.Errorf("%v", err)
	}
	p.Log = p.Log[:1]
	if _, err := verify.Open(build(t, p)); err != api.ErrFalse {
		t.Errorf("its log cut short: %v", err)
	}
}

// join puts a file together by hand, with these chunks of ticks.
func join(t *testing.T, p file.Parts, ticks [][]byte) []byte {
	head, _ := log.Header(p.Header)
	entries, _ := log.Put(p.Log, p.N)
	looks, _ := p.Track.Bytes(p.N)
	b := chunk.Put([]byte("RMCH"), file.Head, head)
	b = chunk.Put(b, file.Span, append(wire.Put(nil, uint64(p.N)), wire.Put(nil, uint64(p.K))...))
	b = chunk.Put(chunk.Put(b, file.Log, entries), file.Track, looks)
	var index []byte
	last := 0
	for _, c := range ticks {
		index = wire.Put(index, uint64(len(b)-last))
		last = len(b)
		b = append(b, c...)
	}
	at := len(b)
	b = wire.PutFixed(chunk.Put(b, file.Index, index), uint32(at))
	return wire.PutFixed(b, crc32.ChecksumIEEE(b))
}

// P22.1: a frame that can't be told, and a false one: of the earlier one the error.
func TestUntold(t *testing.T) {
	p := recording(t, 11, 4)
	chunks := func() [][]byte {
		var out [][]byte
		for tick, frame := range p.Frames {
			if tick%4 == 0 {
				out = append(out, chunk.Put(nil, file.Key, frame))
			} else {
				out = append(out, chunk.Put(nil, file.Delta, delta.Diff(p.Frames[tick-1], frame)))
			}
		}
		return out
	}
	wrong := chunk.Put(nil, file.Key, p.Frames[7])
	short := chunk.Put(nil, file.Delta, []byte("\x05\x01"))
	great := chunk.Put(nil, file.Key, make([]byte, file.MaxFrame+1))
	for _, r := range []struct {
		name   string
		change map[int][]byte
		want   api.Errno
	}{
		{"as it was", nil, api.OK},
		{"a delta", map[int][]byte{6: short}, api.ErrShort},
		{"a key", map[int][]byte{8: great}, api.ErrLimit},
		{"the first key", map[int][]byte{0: great}, api.ErrLimit},
		{"a delta, and a key behind it", map[int][]byte{6: short, 8: great}, api.ErrShort},
		{"a false key", map[int][]byte{8: wrong}, api.ErrFalse},
		{"a false key behind a delta", map[int][]byte{3: short, 8: wrong}, api.ErrShort},
		{"a false key ahead of a delta", map[int][]byte{4: wrong, 6: short}, api.ErrFalse},
		{"a false key ahead of a key", map[int][]byte{4: wrong, 8: great}, api.ErrFalse},
		{"a false delta ahead of a key", map[int][]byte{3: chunk.Put(nil, file.Delta, []byte("\x02")), 4: great}, api.ErrFalse},
	} {
		l := chunks()
		for tick, c := range r.change {
			l[tick] = c
		}
		b := join(t, p, l)
		if _, err := file.Open(b); err != api.OK {
			t.Errorf("%s: not even opened: %v", r.name, err)
		}
		if f, err := verify.Open(b); err != r.want || (f == nil) != (err != api.OK) {
			t.Errorf("%s: %v, want %v", r.name, err, r.want)
		}
	}
}

// R3: the bytes are neither changed nor kept.
func TestMemory(t *testing.T) {
	b := build(t, recording(t, 6, 3))
	keep := bytes.Clone(b)
	f, err := verify.Open(b)
	if err != api.OK || !bytes.Equal(b, keep) {
		t.Fatal(err)
	}
	clear(b)
	if got, err := f.With(track.Track{}); err != api.OK || !bytes.Equal(got, keep) {
		t.Error("the bytes are kept")
	}
}
