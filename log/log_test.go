package log_test

import (
	"bytes"
	"math/rand"
	"slices"
	"strings"
	"testing"

	"rematch/api"
	"rematch/log"
	"rematch/wire"
)

const least, most = -1 << 63, 1<<63 - 1

func good() api.Header {
	return api.Header{W: 5, H: 4, Players: 2, Seed: 0x01020304, Tiles: strings.Repeat("\x00", 18) + "\x01\x02",
		Starts: []api.Start{{Owner: 0, Kind: api.Base, Tile: 0}, {Owner: 1, Kind: api.Barracks, Tile: 17}}}
}

func sameHeader(a, b api.Header) bool {
	return a.W == b.W && a.H == b.H && a.Players == b.Players && a.Seed == b.Seed && a.Tiles == b.Tiles && slices.Equal(a.Starts, b.Starts)
}

// row is a header with so many units.
func row(n int) api.Header {
	h := api.Header{W: 64, H: 64, Players: 4, Tiles: strings.Repeat("\x00", 4096)}
	for i := range n {
		h.Starts = append(h.Starts, api.Start{Owner: uint8(i % 4), Kind: uint8(1 + i%5), Tile: i * 31})
	}
	return h
}

// raw is a header's bytes, whether it may be or not.
func raw(h api.Header) []byte {
	b := wire.Put(wire.Put(wire.Put(nil, uint64(h.W)), uint64(h.H)), uint64(h.Players))
	b = wire.PutText(wire.PutFixed(b, h.Seed), h.Tiles)
	b = wire.Put(b, uint64(len(h.Starts)))
	for _, u := range h.Starts {
		b = wire.Put(wire.Put(wire.Put(b, uint64(u.Owner)), uint64(u.Kind)), uint64(u.Tile))
	}
	return b
}

// P17.1: which headers may be; what may not be has no bytes, and what has its bytes is refused.
func TestMay(t *testing.T) {
	change := func(f func(h *api.Header)) api.Header {
		h := good()
		f(&h)
		return h
	}
	for _, r := range []struct {
		name string
		h    api.Header
		want bool
	}{
		{"good", good(), true},
		{"128 units", row(128), true},
		{"no units", row(0), true},
		{"one player", api.Header{W: 4, H: 4, Players: 1, Tiles: strings.Repeat("\x00", 16)}, true},
		{"129 units", row(129), false},
		{"zero", api.Header{}, false},
		{"a side of 3", api.Header{W: 3, H: 4, Players: 1, Tiles: strings.Repeat("\x00", 12)}, false},
		{"a side of 65", api.Header{W: 4, H: 65, Players: 1, Tiles: strings.Repeat("\x00", 260)}, false},
		{"a tile that is none", change(func(h *api.Header) { h.Tiles = "\x00" + strings.Repeat("\x03", 19) }), false},
		{"too few tiles", change(func(h *api.Header) { h.Tiles = h.Tiles[:19] }), false},
		{"no players", change(func(h *api.Header) { h.Players = 0 }), false},
		{"five players", change(func(h *api.Header) { h.Players = 5 }), false},
		{"an owner that is not there", change(func(h *api.Header) { h.Starts[0].Owner = 2 }), false},
		{"the kind 0", change(func(h *api.Header) { h.Starts[0].Kind = 0 }), false},
		{"the kind 6", change(func(h *api.Header) { h.Starts[0].Kind = 6 }), false},
		{"a rock", change(func(h *api.Header) { h.Starts[0].Tile = 18 }), false},
		{"a crystal", change(func(h *api.Header) { h.Starts[0].Tile = 19 }), false},
		{"off the map", change(func(h *api.Header) { h.Starts[0].Tile = 20 }), false},
		{"one tile twice", change(func(h *api.Header) { h.Starts[0].Tile = 17 }), false},
	} {
		b, err := log.Header(r.h)
		back, took := log.TakeHeader(raw(r.h))
		if log.May(r.h) != r.want {
			t.Errorf("%s: %v", r.name, log.May(r.h))
		}
		if r.want && (err != api.OK || !bytes.Equal(b, raw(r.h)) || took != api.OK || !sameHeader(back, r.h)) {
			t.Errorf("%s: %v, %v", r.name, err, took)
		}
		if !r.want && (err != api.ErrArg || len(b) != 0 || took != api.ErrForm || !sameHeader(back, api.Header{})) {
			t.Errorf("%s: %v, %v", r.name, err, took)
		}
	}
	for _, h := range []api.Header{change(func(h *api.Header) { h.Players = least }), change(func(h *api.Header) { h.Starts[0].Tile = -1 }), change(func(h *api.Header) { h.Starts[0].Tile = most }), change(func(h *api.Header) { h.W, h.H = least, most })} {
		if _, err := log.Header(h); log.May(h) || err != api.ErrArg {
			t.Errorf("%+v may be", h)
		}
	}
}

// P17.1: a header's bytes, one behind the other.
func TestHeader(t *testing.T) {
	b, err := log.Header(good())
	want := "\x05\x04\x02\x01\x02\x03\x04\x14" + good().Tiles + "\x02" + "\x00\x01\x00" + "\x01\x05\x11"
	if err != api.OK || string(b) != want {
		t.Errorf("%x, %v", b, err)
	}
	for n := range b {
		if h, err := log.TakeHeader(b[:n]); err != api.ErrShort || !sameHeader(h, api.Header{}) {
			t.Errorf("%d bytes: %v", n, err)
		}
	}
}

// P17.1: which error wrong bytes of a header meet.
func TestTakeHeaderFaults(t *testing.T) {
	b := string(raw(good()))
	units := b[:len(b)-7]
	for _, r := range []struct {
		name, b string
		want    api.Errno
	}{
		{"a byte more", b + "\x00", api.ErrForm},
		{"W too long", "\x85\x00" + b[1:], api.ErrForm},
		{"W beyond Int", "\x80\x80\x80\x80\x08" + b[1:], api.ErrForm},
		{"W wrong, the rest short", "\x03" + b[1:20], api.ErrShort},
		{"a long text", b[:7] + "\x81\x20" + strings.Repeat("\x00", 4097), api.ErrForm},
		{"a long text that is not there", b[:7] + "\x81\x20", api.ErrForm},
		{"a text of 4096 bytes that is not there", b[:7] + "\x80\x20", api.ErrShort},
		{"units without end", units + "\xff\xff\xff\xff\xff\xff\xff\xff\xff\x01", api.ErrShort},
		{"units without end, and one of them", units + "\xff\xff\xff\xff\xff\xff\xff\xff\xff\x01\x00\x01\x00", api.ErrShort},
		{"the owner 256", units + "\x01\x80\x02\x01\x00", api.ErrForm},
		{"the owner 256, and short", units + "\x02\x80\x02\x01\x00", api.ErrShort},
		{"the kind 257", units + "\x01\x00\x81\x02\x00", api.ErrForm},
		{"a tile beyond Int", units + "\x01\x00\x01\x80\x80\x80\x80\x08", api.ErrForm},
		{"a great owner", units + "\x01\xff\xff\xff\xff\xff\xff\xff\xff\xff\x01\x01\x00", api.ErrForm},
		{"200 units that are not there", units + "\xc8\x01" + strings.Repeat("\x00\x01\x00", 199), api.ErrShort},
		{"200 units", units + "\xc8\x01" + strings.Repeat("\x00\x01\x00", 200), api.ErrForm},
	} {
		if h, err := log.TakeHeader([]byte(r.b)); err != r.want || !sameHeader(h, api.Header{}) {
			t.Errorf("%s: %v, want %v", r.name, err, r.want)
		}
	}
}

// some is a log of so many ticks.
func some(rnd *rand.Rand, n, entries int) []log.Entry {
	var l []log.Entry
	each := map[int]int{}
	for range entries {
		tick := rnd.Intn(n)
		if each[tick]++; each[tick] > api.MaxEach {
			continue
		}
		l = append(l, log.Entry{Tick: tick, C: api.Command{Player: uint8(rnd.Intn(256)), Do: uint8(rnd.Intn(256)), Unit: uint16(rnd.Intn(65536)), Tile: uint16(rnd.Intn(300)), Target: uint16(rnd.Intn(65536)), Kind: uint8(rnd.Intn(256))}})
	}
	slices.SortStableFunc(l, func(a, b log.Entry) int { return a.Tick - b.Tick })
	return l
}

// at is a row of so many entries of one tick.
func at(tick, n int) []log.Entry {
	l := make([]log.Entry, n)
	for i := range l {
		l[i] = log.Entry{Tick: tick, C: api.Command{Unit: uint16(i)}}
	}
	return l
}

// P17.2: the example, and which logs may be.
func TestPut(t *testing.T) {
	c := api.Command{Player: 1, Do: 2, Unit: 300}
	b, err := log.Put([]log.Entry{{3, c}, {3, c}}, 4)
	if err != api.OK || string(b) != "\x02\x03\x01\x02\x00\xac\x02\x00\x00\x00\x01\x02\x00\xac\x02\x00\x00" {
		t.Errorf("%x, %v", b, err)
	}
	b, err = log.Put([]log.Entry{{1, api.Command{Player: 9, Do: 8, Unit: 1, Tile: 2, Target: 65535, Kind: 7}}}, 2)
	if err != api.OK || string(b) != "\x01\x01\x09\x08\x07\x01\x02\xff\xff\x03" {
		t.Errorf("%x, %v", b, err)
	}
	for _, r := range []struct {
		name string
		l    []log.Entry
		n    int
		want api.Errno
	}{
		{"the greatest numbers", []log.Entry{{0, api.Command{Player: 255, Do: 255, Unit: 65535, Tile: 65535, Target: 65535, Kind: 255}}}, 1, api.OK},
		{"none", nil, 0, api.OK},
		{"none of 4096", nil, 4096, api.OK},
		{"ticks below 0", nil, -1, api.ErrArg},
		{"ticks above", nil, 4097, api.ErrArg},
		{"ticks far above", nil, most, api.ErrArg},
		{"the last tick", at(4095, 32), 4096, api.OK},
		{"a tick too late", at(4, 1), 4, api.ErrArg},
		{"of no ticks", at(0, 1), 0, api.ErrArg},
		{"a tick below 0", at(-1, 1), 4, api.ErrArg},
		{"a tick far below 0", at(least, 1), 4, api.ErrArg},
		{"32 of one tick", at(0, 32), 1, api.OK},
		{"33 of one tick", at(0, 33), 1, api.ErrArg},
		{"33 of a later tick", append(at(0, 32), at(2, 33)...), 3, api.ErrArg},
		{"32 of two ticks", append(at(1, 32), at(2, 32)...), 3, api.OK},
		{"falling", append(at(2, 1), at(1, 1)...), 3, api.ErrArg},
	} {
		b, err := log.Put(r.l, r.n)
		if err != r.want || err != api.OK && len(b) != 0 {
			t.Errorf("%s: %v, want %v", r.name, err, r.want)
		}
		if err == api.OK {
			if back, err := log.Take(b, r.n); err != api.OK || !slices.Equal(back, r.l) {
				t.Errorf("%s: taken: %v", r.name, err)
			}
		}
	}
}

// raws is the bytes of entries, whether they may be or not.
func raws(l []log.Entry) string {
	b := wire.Put(nil, uint64(len(l)))
	last := 0
	for _, e := range l {
		b = append(wire.Put(b, uint64(e.Tick-last)), e.C.Player, e.C.Do, e.C.Kind)
		b = wire.Put(wire.Put(wire.Put(b, uint64(e.C.Unit)), uint64(e.C.Tile)), uint64(e.C.Target))
		last = e.Tick
	}
	return string(b)
}

// P17.2: which error wrong bytes of a log meet.
func TestTakeFaults(t *testing.T) {
	one := "\x00\x01\x02\x00\x00\x00\x00"
	for _, r := range []struct {
		name, b string
		n       int
		want    api.Errno
	}{
		{"none", "", 4, api.ErrShort},
		{"ticks below 0, none", "", -1, api.ErrArg},
		{"ticks above", "\x00", 4097, api.ErrArg},
		{"a byte more", "\x00\x00", 4, api.ErrForm},
		{"a number too long", "\x80\x00", 4, api.ErrForm},
		{"an entry that is not there", "\x02" + one, 4, api.ErrShort},
		{"entries without end", "\xff\xff\xff\xff\xff\xff\xff\xff\xff\x01" + one, 4, api.ErrShort},
		{"a tick too late", "\x01\x04\x01\x02\x00\x00\x00\x00", 4, api.ErrForm},
		{"a tick too late, and short", "\x01\x04\x01\x02\x00\x00\x00", 4, api.ErrShort},
		{"a tick too late, then nothing", "\x02\x04\x01\x02\x00\x00\x00\x00", 4, api.ErrForm},
		{"later beyond Int", "\x01\x80\x80\x80\x80\x08\x01\x02\x00\x00\x00\x00", 4, api.ErrForm},
		{"later, most of Int", "\x01\xff\xff\xff\xff\x07\x01\x02\x00\x00\x00\x00", 4096, api.ErrForm},
		{"a unit of 65536", "\x01\x00\x01\x02\x00\x80\x80\x04\x00\x00", 4, api.ErrForm},
		{"a tile of 65536", "\x01\x00\x01\x02\x00\x00\x80\x80\x04\x00", 4, api.ErrForm},
		{"a target of 65536", "\x01\x00\x01\x02\x00\x00\x00\x80\x80\x04", 4, api.ErrForm},
		{"a unit of 65536, then nothing", "\x02\x00\x01\x02\x00\x80\x80\x04\x00\x00", 4, api.ErrForm},
		{"a great unit", "\x01\x00\x01\x02\x00\xff\xff\xff\xff\xff\xff\xff\xff\xff\x01\x00\x00", 4, api.ErrForm},
		{"33 of one tick", raws(at(1, 33)), 4, api.ErrForm},
		{"33 of one tick, then nothing", "\x22" + raws(at(1, 33))[1:], 4, api.ErrForm},
	} {
		if l, err := log.Take([]byte(r.b), r.n); err != r.want || len(l) != 0 {
			t.Errorf("%s: %v, want %v", r.name, err, r.want)
		}
	}
	b, _ := log.Put(some(rand.New(rand.NewSource(9)), 40, 30), 40)
	for n := range b {
		if l, err := log.Take(b[:n], 40); err != api.ErrShort || len(l) != 0 {
			t.Errorf("%d bytes: %v", n, err)
		}
	}
}

// P17.3: the commands of a tick, in order, of any list.
func TestAt(t *testing.T) {
	rnd := rand.New(rand.NewSource(1))
	l := some(rnd, 20, 60)
	rnd.Shuffle(len(l), func(i, j int) { l[i], l[j] = l[j], l[i] })
	for tick := -1; tick < 21; tick++ {
		var want []api.Command
		for _, e := range l {
			if e.Tick == tick {
				want = append(want, e.C)
			}
		}
		if got := log.At(l, tick); !slices.Equal(got, want) {
			t.Errorf("tick %d: %v, want %v", tick, got, want)
		}
	}
	if len(log.At(nil, 0)) != 0 || len(log.At(l, least)) != 0 {
		t.Error("commands from nowhere")
	}
}

// P17.4: what is put is taken as itself.
func TestPutTake(t *testing.T) {
	rnd := rand.New(rand.NewSource(2))
	for range 200 {
		n := 1 + rnd.Intn(api.MaxTicks)
		l := some(rnd, n, rnd.Intn(60))
		b, err := log.Put(l, n)
		back, took := log.Take(b, n)
		if err != api.OK || took != api.OK || !slices.Equal(back, l) {
			t.Fatalf("%v, %v", err, took)
		}
	}
	for _, h := range []api.Header{good(), row(0), row(7), row(128)} {
		b, _ := log.Header(h)
		if back, err := log.TakeHeader(b); err != api.OK || !sameHeader(back, h) {
			t.Fatalf("%v", err)
		}
	}
}

// P17.4: bytes that are taken are put as themselves.
func TestTakePut(t *testing.T) {
	rnd := rand.New(rand.NewSource(3))
	taken, headers := 0, 0
	for range 20000 {
		l, err := log.Put(some(rnd, 9, rnd.Intn(4)), 9)
		if err != api.OK {
			t.Fatal(err)
		}
		l[rnd.Intn(len(l))] ^= byte(1 << rnd.Intn(8))
		if back, err := log.Take(l, 9); err == api.OK {
			taken++
			if again, err := log.Put(back, 9); err != api.OK || !bytes.Equal(again, l) {
				t.Fatalf("%x becomes %x", l, again)
			}
		}
		h := raw(good())
		h[rnd.Intn(len(h))] ^= byte(1 << rnd.Intn(8))
		if back, err := log.TakeHeader(h); err == api.OK {
			headers++
			if again, err := log.Header(back); err != api.OK || !bytes.Equal(again, h) {
				t.Fatalf("%x becomes %x", h, again)
			}
		}
	}
	if taken < 100 || headers < 100 {
		t.Errorf("only %d, %d were taken", taken, headers)
	}
}

// R3: what is handed in is neither changed nor kept.
func TestMemory(t *testing.T) {
	h := good()
	b, _ := log.Header(h)
	back, _ := log.TakeHeader(b)
	clear(b)
	if !sameHeader(back, good()) || !sameHeader(h, good()) {
		t.Error("bytes are kept")
	}
	l := at(0, 2)
	log.At(l, 0)[0].Unit = 99
	if l[0].C.Unit != 0 {
		t.Error("commands are shared")
	}
}
