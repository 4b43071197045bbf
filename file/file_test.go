package file_test

import (
	"bytes"
	"hash/crc32"
	"math/rand"
	"slices"
	"strings"
	"testing"

	"rematch/api"
	"rematch/chunk"
	"rematch/delta"
	"rematch/file"
	"rematch/fix"
	"rematch/log"
	"rematch/track"
	"rematch/wire"
)

const low, high = -1 << 63, 1<<63 - 1

func header() api.Header {
	return api.Header{W: 5, H: 4, Players: 2, Seed: 9, Tiles: strings.Repeat("\x00", 20), Starts: []api.Start{{Owner: 1, Kind: api.Worker, Tile: 7}}}
}

// parts is a recording of n ticks, with frames that change a little from tick to tick.
func parts(rnd *rand.Rand, n, k int) file.Parts {
	p := file.Parts{Header: header(), N: n, K: k}
	for tick := range n {
		for range rnd.Intn(2) {
			p.Log = append(p.Log, log.Entry{Tick: tick, C: api.Command{Player: uint8(rnd.Intn(9)), Unit: uint16(rnd.Intn(999))}})
		}
	}
	p.Track.Cameras[1] = []track.Point{{Tick: 0, At: fix.Point{X: 5, Y: 6}}}
	p.Track.Marks = []track.Mark{{Tick: n, Name: "end"}}
	frame := make([]byte, 40+rnd.Intn(60))
	rnd.Read(frame)
	for range n + 1 {
		frame = bytes.Clone(frame)
		frame[rnd.Intn(len(frame))] ^= byte(rnd.Intn(4))
		if rnd.Intn(3) == 0 {
			frame = append(frame, make([]byte, rnd.Intn(9))...)
		}
		p.Frames = append(p.Frames, frame)
	}
	return p
}

func build(t *testing.T, p file.Parts) []byte {
	t.Helper()
	b, err := file.Build(p)
	if err != api.OK {
		t.Fatal(err)
	}
	return b
}

func open(t *testing.T, b []byte) *file.File {
	t.Helper()
	f, err := file.Open(b)
	if err != api.OK {
		t.Fatal(err)
	}
	return f
}

func sameTrack(a, b track.Track) bool {
	for i := range a.Cameras {
		if !slices.Equal(a.Cameras[i], b.Cameras[i]) {
			return false
		}
	}
	return slices.Equal(a.Marks, b.Marks)
}

// sameParts compares all but frames.
func sameParts(a, b file.Parts) bool {
	x, y := a.Header, b.Header
	heads := x.W == y.W && x.H == y.H && x.Players == y.Players && x.Seed == y.Seed && x.Tiles == y.Tiles && slices.Equal(x.Starts, y.Starts)
	return heads && slices.Equal(a.Log, b.Log) && a.N == b.N && a.K == b.K && sameTrack(a.Track, b.Track)
}

// piece is a chunk of a file that is put together by hand: of a kind and data, or, if it has bytes, just these.
type piece struct {
	kind  uint8
	data  []byte
	bytes []byte
}

// pieces are the chunks of a recording's file, without the Index.
func pieces(t *testing.T, p file.Parts) []piece {
	t.Helper()
	head, err := log.Header(p.Header)
	entries, err2 := log.Put(p.Log, p.N)
	looks, err3 := p.Track.Bytes(p.N)
	if err != api.OK || err2 != api.OK || err3 != api.OK {
		t.Fatal(err, err2, err3)
	}
	out := []piece{{kind: 1, data: head}, {kind: 2, data: wire.Put(wire.Put(nil, uint64(p.N)), uint64(p.K))}, {kind: 3, data: entries}, {kind: 4, data: looks}}
	for i, frame := range p.Frames {
		if i%p.K == 0 {
			out = append(out, piece{kind: 5, data: frame})
		} else {
			out = append(out, piece{kind: 6, data: delta.Diff(p.Frames[i-1], frame)})
		}
	}
	return out
}

// join puts a file together; what is changed of its index, its place and its end is told by change.
func join(l []piece, change func(index *piece, behind *[]byte, place *int)) []byte {
	b := []byte("RMCH")
	var index []byte
	last := 0
	for i, p := range l {
		if i >= 4 {
			index = wire.Put(index, uint64(len(b)-last))
			last = len(b)
		}
		if p.bytes != nil {
			b = append(b, p.bytes...)
		} else {
			b = chunk.Put(b, p.kind, p.data)
		}
	}
	end, behind, place := piece{kind: 7, data: index}, []byte(nil), len(b)
	if change != nil {
		change(&end, &behind, &place)
	}
	if end.bytes != nil {
		b = append(b, end.bytes...)
	} else {
		b = chunk.Put(b, end.kind, end.data)
	}
	b = append(b, behind...)
	return seal(wire.PutFixed(b, uint32(place)))
}

func seal(b []byte) []byte {
	return wire.PutFixed(b, crc32.ChecksumIEEE(b))
}

// P20.1: a recording's file, chunk by chunk.
func TestBuild(t *testing.T) {
	rnd := rand.New(rand.NewSource(1))
	for _, r := range [][2]int{{0, 1}, {0, 256}, {1, 1}, {5, 2}, {12, 5}, {30, 256}, {40, 1}, {300, 7}} {
		p := parts(rnd, r[0], r[1])
		if got, want := build(t, p), join(pieces(t, p), nil); !bytes.Equal(got, want) {
			t.Errorf("%v: %x, want %x", r, got, want)
		}
	}
}

// P20.1: what is no recording.
func TestBuildFaults(t *testing.T) {
	big := make([]byte, file.MaxFrame+1)
	for name, change := range map[string]func(p *file.Parts){
		"a header":             func(p *file.Parts) { p.Header.Players = 0 },
		"ticks below 0":        func(p *file.Parts) { p.N, p.Frames = -1, nil },
		"ticks far below 0":    func(p *file.Parts) { p.N = low },
		"ticks above":          func(p *file.Parts) { p.N, p.Frames = 4097, make([][]byte, 4098) },
		"most of all ticks":    func(p *file.Parts) { p.N = high },
		"keys 0 apart":         func(p *file.Parts) { p.K = 0 },
		"keys below 0 apart":   func(p *file.Parts) { p.K = -1 },
		"keys too far apart":   func(p *file.Parts) { p.K = 257 },
		"a log":                func(p *file.Parts) { p.Log = []log.Entry{{Tick: 4}} },
		"a track":              func(p *file.Parts) { p.Track.Marks = []track.Mark{{Tick: 5}} },
		"a frame too few":      func(p *file.Parts) { p.Frames = p.Frames[:4] },
		"a frame too many":     func(p *file.Parts) { p.Frames = append(p.Frames, nil) },
		"no frames":            func(p *file.Parts) { p.Frames = nil },
		"a frame too great":    func(p *file.Parts) { p.Frames[2] = big },
		"a key frame too big":  func(p *file.Parts) { p.Frames[0] = big },
		"nothing":              func(p *file.Parts) { *p = file.Parts{} },
		"no header, no limits": func(p *file.Parts) { p.Header = api.Header{}; p.Frames[0] = big },
	} {
		p := parts(rand.New(rand.NewSource(2)), 4, 2)
		p.Log = nil
		change(&p)
		if b, err := file.Build(p); err != api.ErrArg || len(b) != 0 {
			t.Errorf("%s: %v", name, err)
		}
	}
	p := parts(rand.New(rand.NewSource(2)), 2, 2)
	p.Frames = [][]byte{big[:file.MaxFrame], nil, big[1:]}
	if f := open(t, build(t, p)); f.Parts().N != 2 {
		t.Error("frames at their limit, and empty ones")
	}
}

// noise is frames that can't be packed, so that a file has just so many bytes.
func noise(t *testing.T, size int) file.Parts {
	rnd := rand.New(rand.NewSource(3))
	p := file.Parts{Header: header(), N: 32, K: 1}
	for range 32 {
		frame := make([]byte, file.MaxFrame-4000)
		rnd.Read(frame)
		p.Frames = append(p.Frames, frame)
	}
	p.Frames = append(p.Frames, nil)
	last := make([]byte, file.MaxFrame)
	rnd.Read(last)
	p.Frames[32] = last[:size-len(build(t, p))-16]
	p.Frames[32] = last[:len(p.Frames[32])+size-len(build(t, p))]
	return p
}

// P20.1: a file has at most MaxFile bytes, built or opened, or with another track.
func TestLimit(t *testing.T) {
	p := noise(t, api.MaxFile)
	b := build(t, p)
	if len(b) != api.MaxFile {
		t.Fatal(len(b))
	}
	f := open(t, b)
	if f.Size() != api.MaxFile {
		t.Error(f.Size())
	}
	if b, err := f.With(track.Track{Marks: []track.Mark{{Name: "one more"}}}); err != api.ErrLimit || len(b) != 0 {
		t.Errorf("another track: %v", err)
	}
	if b, err := f.With(track.Track{}); err != api.OK || len(b) != api.MaxFile {
		t.Errorf("the same track: %v", err)
	}
	p.Frames[32] = append(p.Frames[32], 77)
	if b, err := file.Build(p); err != api.ErrLimit || len(b) != 0 {
		t.Errorf("a byte too many: %v", err)
	}
	if f, err := file.Open(append(b, 0)); err != api.ErrLimit || f != nil {
		t.Errorf("opened, a byte too many: %v", err)
	}
	for i := range p.Frames[:32] {
		p.Frames[i] = great(i)
	}
	if b, err := file.Build(p); err != api.ErrLimit || len(b) != 0 {
		t.Errorf("far too many: %v", err)
	}
}

func great(i int) []byte {
	b := make([]byte, file.MaxFrame)
	rand.New(rand.NewSource(int64(i))).Read(b)
	return b
}

// P20.1: which error wrong bytes meet, in the order in which they stand.
func TestOpenFaults(t *testing.T) {
	p := parts(rand.New(rand.NewSource(4)), 5, 3)
	p.Log = []log.Entry{{Tick: 4, C: api.Command{Do: 1}}}
	with := func(i int, x piece) []byte {
		l := pieces(t, p)
		l[i] = x
		return join(l, nil)
	}
	whole := build(t, p)
	span := func(b ...byte) []byte { return with(1, piece{kind: 2, data: b}) }
	for _, r := range []struct {
		name string
		b    []byte
		want api.Errno
	}{
		{"none", nil, api.ErrShort},
		{"11 bytes", whole[:11], api.ErrShort},
		{"12 bytes", whole[:12], api.ErrSum},
		{"cut", whole[:len(whole)-1], api.ErrSum},
		{"other four bytes", seal(append([]byte("RMCh"), whole[4:len(whole)-4]...)), api.ErrForm},
		{"other four bytes, and sum", append([]byte("RMCh"), whole[4:]...), api.ErrSum},
		{"the kind of Head", with(0, piece{kind: 2, data: pieces(t, p)[0].data}), api.ErrForm},
		{"Head's bytes", with(0, piece{kind: 1, data: []byte("\x05\x04")}), api.ErrShort},
		{"Head's bytes, too many", with(0, piece{kind: 1, data: append(pieces(t, p)[0].data, 0)}), api.ErrForm},
		{"Head's checksum", with(0, piece{bytes: []byte("\x01\x00\x01\x01a\x00\x00\x00\x00")}), api.ErrSum},
		{"Head above MaxData", with(0, piece{kind: 1, data: make([]byte, file.MaxData+1)}), api.ErrLimit},
		{"another kind above MaxData", with(0, piece{kind: 9, data: make([]byte, file.MaxData+1)}), api.ErrLimit},
		{"Head of MaxData", with(0, piece{kind: 1, data: make([]byte, file.MaxData)}), api.ErrForm},
		{"the kind of Span", with(1, piece{kind: 1, data: []byte("\x05\x03")}), api.ErrForm},
		{"Span, short", span(5), api.ErrShort},
		{"Span, too long", span(5, 3, 0), api.ErrForm},
		{"Span, N", span(0x81, 0x20, 3), api.ErrForm},
		{"Span, N beyond Int", span(0x80, 0x80, 0x80, 0x80, 8, 3), api.ErrForm},
		{"Span, K 0", span(5, 0), api.ErrForm},
		{"Span, K 257", span(5, 0x81, 2), api.ErrForm},
		{"Span, a tick less", span(4, 3), api.ErrForm},
		{"Span, a tick more", span(6, 3), api.ErrForm},
		{"Span, other keys", span(5, 2), api.ErrForm},
		{"the kind of Log", with(2, piece{kind: 4, data: pieces(t, p)[2].data}), api.ErrForm},
		{"Log's bytes", with(2, piece{kind: 3, data: []byte("\x01\x04")}), api.ErrShort},
		{"Log, a tick too late", with(2, piece{kind: 3, data: []byte("\x01\x05\x00\x00\x00\x00\x00\x00")}), api.ErrForm},
		{"the kind of Track", with(3, piece{kind: 3, data: pieces(t, p)[3].data}), api.ErrForm},
		{"Track's bytes", with(3, piece{kind: 4, data: []byte("\x00")}), api.ErrShort},
		{"Track, a bookmark too late", with(3, piece{kind: 4, data: []byte("\x00\x00\x00\x00\x01\x06\x00")}), api.ErrForm},
		{"a key as a delta", with(4, piece{kind: 6, data: p.Frames[0]}), api.ErrForm},
		{"a delta as a key", with(5, piece{kind: 5, data: p.Frames[1]}), api.ErrForm},
		{"a tick's checksum", with(5, piece{bytes: []byte("\x06\x00\x01\x01a\x00\x00\x00\x00")}), api.ErrSum},
		{"a tick's byte", with(5, piece{bytes: []byte("\x06\x02\x01\x01a\x00\x00\x00\x00")}), api.ErrForm},
		{"a tick too few", join(pieces(t, p)[:9], nil), api.ErrForm},
		{"a tick too many", join(append(pieces(t, p), piece{kind: 5}), nil), api.ErrForm},
		{"the kind of Index", join(pieces(t, p), func(x *piece, _ *[]byte, _ *int) { x.kind = 8 }), api.ErrForm},
		{"Index, other bytes", join(pieces(t, p), func(x *piece, _ *[]byte, _ *int) { x.data[0]++ }), api.ErrForm},
		{"Index, a byte more", join(pieces(t, p), func(x *piece, _ *[]byte, _ *int) { x.data = append(x.data, 0) }), api.ErrForm},
		{"Index, none", join(pieces(t, p), func(x *piece, _ *[]byte, _ *int) { x.data = nil }), api.ErrForm},
		{"the foot's place", join(pieces(t, p), func(_ *piece, _ *[]byte, at *int) { *at++ }), api.ErrForm},
		{"bytes ahead of the foot", join(pieces(t, p), func(_ *piece, b *[]byte, _ *int) { *b = []byte{0} }), api.ErrForm},
		{"a second foot", join(pieces(t, p), func(_ *piece, b *[]byte, at *int) { *b = append(wire.PutFixed(nil, uint32(*at)), 1, 2, 3, 4) }), api.ErrForm},
		{"a chunk ahead of the foot", join(pieces(t, p), func(_ *piece, b *[]byte, _ *int) { *b = chunk.Put(nil, 7, nil) }), api.ErrForm},
		{"as it must be", join(pieces(t, p), nil), api.OK},
	} {
		f, err := file.Open(r.b)
		if err != r.want || (f == nil) != (err != api.OK) {
			t.Errorf("%s: %v, want %v", r.name, err, r.want)
		}
	}
	if f, err := file.Open(make([]byte, api.MaxFile+1)); err != api.ErrLimit || f != nil {
		t.Errorf("too many bytes: %v", err)
	}
}

// P20.1: no frame is unpacked: a file is opened though its frames can't be told.
func TestNotUnpacked(t *testing.T) {
	p := parts(rand.New(rand.NewSource(5)), 7, 4)
	l := pieces(t, p)
	bad := func(kind string) piece {
		return piece{bytes: seal([]byte(kind + "\x01\x09\x01\xff"))}
	}
	l[4+2], l[4+4] = bad("\x06"), bad("\x05")
	l[4+7] = piece{kind: 6, data: []byte("\xff\xff\xff\xff\x07")}
	f := open(t, join(l, nil))
	for tick, want := range []api.Errno{api.OK, api.OK, api.ErrForm, api.ErrForm, api.ErrForm, api.ErrForm, api.ErrForm, api.ErrForm} {
		b, err := f.Frame(tick)
		if err != want || err != api.OK && len(b) != 0 || err == api.OK && !bytes.Equal(b, p.Frames[tick]) {
			t.Errorf("tick %d: %v, want %v", tick, err, want)
		}
	}
	if b, err := f.Delta(3, p.Frames[2]); err != api.OK || !bytes.Equal(b, p.Frames[3]) {
		t.Errorf("from the one ahead: %v", err)
	}
	if b, err := f.Delta(7, p.Frames[6]); err != api.ErrLimit || len(b) != 0 {
		t.Errorf("a text without end: %v", err)
	}
}

// P20.3: frames above their limits.
func TestFrameLimits(t *testing.T) {
	p := parts(rand.New(rand.NewSource(6)), 3, 2)
	l := pieces(t, p)
	l[4] = piece{kind: 5, data: make([]byte, file.MaxFrame+1)}
	l[5] = piece{kind: 6, data: make([]byte, 2*file.MaxFrame+1)}
	l[6] = piece{kind: 5, data: make([]byte, file.MaxFrame)}
	l[7] = piece{kind: 6, data: wire.Put(nil, file.MaxFrame+1)}
	f := open(t, join(l, nil))
	if _, err := f.Key(0); err != api.ErrLimit {
		t.Errorf("a key: %v", err)
	}
	if _, err := f.Delta(1, nil); err != api.ErrLimit {
		t.Errorf("a delta: %v", err)
	}
	if b, err := f.Key(2); err != api.OK || len(b) != file.MaxFrame {
		t.Errorf("a key at its limit: %v", err)
	}
	if _, err := f.Frame(3); err != api.ErrLimit {
		t.Errorf("a text above its limit: %v", err)
	}
	l[5] = piece{kind: 6, data: make([]byte, 2*file.MaxFrame)}
	if _, err := open(t, join(l, nil)).Delta(1, nil); err != api.ErrShort {
		t.Errorf("a delta at its limit: %v", err)
	}
}

// P20.1: the longest game; the limits' numbers.
func TestLongest(t *testing.T) {
	if file.MaxKey != 256 || file.MaxFrame != 131072 || file.MaxData != 2097152 {
		t.Error("limits")
	}
	p := file.Parts{Header: header(), N: api.MaxTicks, K: 256, Frames: make([][]byte, api.MaxTicks+1)}
	p.Frames[4095], p.Frames[4096] = []byte("a"), []byte("b")
	f := open(t, build(t, p))
	if b, err := f.Frame(4095); err != api.OK || string(b) != "a" {
		t.Errorf("the last but one: %v", err)
	}
	if b, err := f.Frame(4096); err != api.OK || string(b) != "b" || f.Parts().N != 4096 {
		t.Errorf("the last one: %v", err)
	}
}

// P20.2, P20.3, P20.5: what is built is opened as itself, with all its frames.
func TestOpen(t *testing.T) {
	rnd := rand.New(rand.NewSource(7))
	for _, r := range [][2]int{{0, 1}, {1, 1}, {3, 256}, {20, 4}, {60, 9}, {257, 256}} {
		p := parts(rnd, r[0], r[1])
		b := build(t, p)
		f := open(t, b)
		if got := f.Parts(); !sameParts(got, p) || len(got.Frames) != 0 || f.Size() != len(b) {
			t.Fatalf("%v: %+v", r, got)
		}
		for tick, frame := range p.Frames {
			if got, err := f.Frame(tick); err != api.OK || !bytes.Equal(got, frame) {
				t.Fatalf("%v, tick %d: %v", r, tick, err)
			}
			key, err := f.Key(tick)
			if tick%r[1] == 0 && (err != api.OK || !bytes.Equal(key, frame)) || tick%r[1] != 0 && (err != api.ErrArg || len(key) != 0) {
				t.Fatalf("%v, the key %d: %v", r, tick, err)
			}
			var was []byte
			if tick > 0 {
				was = p.Frames[tick-1]
			}
			next, err := f.Delta(tick, was)
			if tick%r[1] != 0 && (err != api.OK || !bytes.Equal(next, frame)) || tick%r[1] == 0 && (err != api.ErrArg || len(next) != 0) {
				t.Fatalf("%v, the delta %d: %v", r, tick, err)
			}
		}
		for _, tick := range []int{-1, r[0] + 1, low, high} {
			_, err := f.Key(tick)
			_, err2 := f.Delta(tick, nil)
			_, err3 := f.Frame(tick)
			if err != api.ErrRange || err2 != api.ErrRange || err3 != api.ErrRange {
				t.Fatalf("%v, tick %d: %v, %v, %v", r, tick, err, err2, err3)
			}
		}
	}
}

// P20.5: a file of which one byte is changed is refused.
func TestChanged(t *testing.T) {
	rnd := rand.New(rand.NewSource(8))
	b := build(t, parts(rnd, 6, 3))
	for at := range b {
		was := b[at]
		b[at] ^= byte(1 + rnd.Intn(255))
		if f, err := file.Open(b); err != api.ErrSum || f != nil {
			t.Fatalf("the byte %d: %v", at, err)
		}
		b[at] = was
	}
}

// P20.4, P20.5: with another track all else is the same.
func TestWith(t *testing.T) {
	rnd := rand.New(rand.NewSource(9))
	p := parts(rnd, 20, 6)
	b := build(t, p)
	f := open(t, b)
	tracks := []track.Track{{}, p.Track, {Marks: []track.Mark{{Tick: 3, Name: strings.Repeat("long ", 8)}, {Tick: 20}}}}
	tracks[2].Cameras[3] = []track.Point{{Tick: 1, At: fix.Point{X: 9}}, {Tick: 2, At: fix.Point{Y: 16384}}}
	for _, x := range tracks {
		got, err := f.With(x)
		want := p
		want.Track = x
		if err != api.OK || !bytes.Equal(got, build(t, want)) {
			t.Fatalf("%v", err)
		}
		again := open(t, got)
		if !sameParts(again.Parts(), want) {
			t.Fatalf("%+v", again.Parts())
		}
		for tick, frame := range p.Frames {
			if got, err := again.Frame(tick); err != api.OK || !bytes.Equal(got, frame) {
				t.Fatalf("tick %d: %v", tick, err)
			}
		}
	}
	if same, err := f.With(p.Track); err != api.OK || !bytes.Equal(same, b) {
		t.Errorf("its own track: %v", err)
	}
	if got, err := f.With(track.Track{Marks: []track.Mark{{Tick: 21}}}); err != api.ErrArg || len(got) != 0 {
		t.Errorf("a track that may not be: %v", err)
	}
}

// P20.4: other chunks are as they are, though they would be built otherwise: raw ones that could be packed, and wrong ones.
func TestWithAsTheyAre(t *testing.T) {
	p := parts(rand.New(rand.NewSource(10)), 3, 2)
	l := pieces(t, p)
	loose := make([]byte, 100)
	l[4] = piece{bytes: seal(append([]byte("\x05\x00\x64\x64"), loose...))}
	l[6] = piece{bytes: seal([]byte("\x05\x01\x09\x01\xff"))}
	f := open(t, join(l, nil))
	x := track.Track{Marks: []track.Mark{{Tick: 2, Name: "here"}}}
	got, err := f.With(x)
	l[3].data, _ = x.Bytes(3)
	if err != api.OK || !bytes.Equal(got, join(l, nil)) {
		t.Errorf("%v", err)
	}
}

// P20.4: the Index, too, is as it is, if nothing is moved.
func TestWithIndexAsItIs(t *testing.T) {
	p := file.Parts{Header: header(), N: 30, K: 1, Frames: make([][]byte, 31)}
	p.Track.Marks = []track.Mark{{Tick: 1, Name: "one"}}
	raw := func(index *piece, _ *[]byte, _ *int) {
		n := byte(len(index.data))
		index.bytes = seal(append([]byte{7, 0, n, n}, index.data...))
	}
	b := join(pieces(t, p), raw)
	f := open(t, b)
	if len(build(t, p)) >= len(b) {
		t.Fatal("the Index would not be packed")
	}
	p.Track.Marks[0].Name = "two"
	if got, err := f.With(p.Track); err != api.OK || !bytes.Equal(got, join(pieces(t, p), raw)) {
		t.Errorf("%v", err)
	}
	p.Track.Marks[0].Name = "three"
	if got, err := f.With(p.Track); err != api.OK || !bytes.Equal(got, build(t, p)) {
		t.Errorf("moved: %v", err)
	}
}

// R1: of nil.
func TestNil(t *testing.T) {
	var f *file.File
	_, err := f.Key(0)
	_, err2 := f.Delta(-1, nil)
	_, err3 := f.Frame(99)
	b, err4 := f.With(track.Track{Marks: make([]track.Mark, 99)})
	if err != api.ErrNil || err2 != api.ErrNil || err3 != api.ErrNil || err4 != api.ErrNil || len(b) != 0 {
		t.Error(err, err2, err3, err4)
	}
	if p := f.Parts(); !sameParts(p, file.Parts{}) || len(p.Frames) != 0 || f.Size() != 0 {
		t.Error("parts of nil")
	}
}

// R3: a file keeps no memory that it was handed, and hands out none of its own.
func TestMemory(t *testing.T) {
	rnd := rand.New(rand.NewSource(11))
	p := parts(rnd, 6, 3)
	p.Log = []log.Entry{{Tick: 1}}
	b := build(t, p)
	keep := bytes.Clone(b)
	f := open(t, b)
	clear(b)
	one := f.Parts()
	one.Header.Starts[0].Tile, one.Log[0].Tick, one.Track.Marks[0].Name, one.Track.Cameras[1][0].Tick = 99, 99, "x", 99
	key, _ := f.Key(0)
	clear(key)
	was := bytes.Clone(p.Frames[0])
	next, _ := f.Delta(1, was)
	clear(next)
	out, _ := f.With(p.Track)
	if !bytes.Equal(out, keep) || !sameParts(f.Parts(), p) || !bytes.Equal(was, p.Frames[0]) {
		t.Error("memory is shared")
	}
	clear(out)
	for tick, frame := range p.Frames {
		if got, err := f.Frame(tick); err != api.OK || !bytes.Equal(got, frame) {
			t.Fatalf("tick %d: %v", tick, err)
		}
	}
}

// R1, R2: any bytes, with the right checksums around them, are refused or opened, and then answer.
func TestAnyBytes(t *testing.T) {
	rnd := rand.New(rand.NewSource(12))
	p := parts(rnd, 4, 2)
	opened := 0
	for range 3000 {
		l := pieces(t, p)
		i := rnd.Intn(len(l))
		data := bytes.Clone(l[i].data)
		if len(data) > 0 {
			data[rnd.Intn(len(data))] = byte(rnd.Intn(256))
		}
		l[i].data = data
		f, err := file.Open(join(l, nil))
		if err != api.OK {
			continue
		}
		opened++
		for tick := range f.Parts().N + 1 {
			b, err := f.Frame(tick)
			again, err2 := f.Frame(tick)
			if err != err2 || !bytes.Equal(b, again) || len(b) > file.MaxFrame {
				t.Fatalf("tick %d: %v, %v", tick, err, err2)
			}
		}
	}
	if opened < 100 {
		t.Errorf("only %d were opened", opened)
	}
}
