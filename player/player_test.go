package player_test

import (
	"bytes"
	"math/rand"
	"slices"
	"strings"
	"testing"

	"rematch/api"
	"rematch/file"
	"rematch/fix"
	"rematch/fog"
	"rematch/log"
	"rematch/player"
	"rematch/record"
	"rematch/state"
	"rematch/track"
)

const low, high = -1 << 63, 1<<63 - 1

// drawn is a header of a map that is drawn: '.' Ground, '#' Rock, '*' Crystal; units of the players 0 and 1 as letters (B, W, S, A, K; b, w, s, a, k).
func drawn(rows ...string) api.Header {
	h := api.Header{W: len(rows[0]), H: len(rows), Players: 2, Seed: 5}
	var tiles []byte
	for i, c := range strings.Join(rows, "") {
		tiles = append(tiles, uint8(max(0, strings.IndexRune(".#*", c))))
		if at := strings.IndexRune("BWSAKbwsak", c); at >= 0 {
			h.Starts = append(h.Starts, api.Start{Owner: uint8(at / 5), Kind: uint8(at%5 + 1), Tile: i})
		}
	}
	h.Tiles = string(tiles)
	return h
}

func war() api.Header {
	return drawn("BW.*..#S", "W..*.A..", "K.A..#s.", "#....s.s", "..*...wb", "..w..a.k")
}

// recording is a game of war, with a camera and two bookmarks.
func recording(t *testing.T, n, k int) file.Parts {
	t.Helper()
	rnd := rand.New(rand.NewSource(7))
	var l []log.Entry
	for at := range n {
		for range rnd.Intn(5) {
			l = append(l, log.Entry{Tick: at, C: api.Command{Player: uint8(rnd.Intn(2)), Do: uint8(1 + rnd.Intn(7)), Unit: uint16(rnd.Intn(16)), Tile: uint16(rnd.Intn(48)), Target: uint16(rnd.Intn(16)), Kind: uint8(1 + rnd.Intn(5))}})
		}
	}
	frames, err := record.Game(war(), l, n)
	if err != api.OK {
		t.Fatal(err)
	}
	x := track.Track{Marks: []track.Mark{{Tick: 0, Name: "first"}, {Tick: n, Name: "last"}}}
	x.Cameras[0] = []track.Point{{Tick: 0, At: fix.Point{X: 100, Y: 200}}, {Tick: max(n, 1), At: fix.Point{X: 300, Y: 0}}}
	x.Cameras[3] = []track.Point{{Tick: 0, At: fix.Point{X: 1, Y: 1}}}
	if n == 0 {
		x.Cameras[0] = x.Cameras[0][:1]
	}
	return file.Parts{Header: war(), Log: l, N: n, K: k, Track: x, Frames: frames}
}

func open(t *testing.T, p file.Parts) *file.File {
	t.Helper()
	b, err := file.Build(p)
	if err != api.OK {
		t.Fatal(err)
	}
	f, err := file.Open(b)
	if err != api.OK {
		t.Fatal(err)
	}
	return f
}

func fresh(t *testing.T, f *file.File, store int) *player.Player {
	t.Helper()
	p, err := player.New(f, store)
	if err != api.OK {
		t.Fatal(err)
	}
	return p
}

func cost(p *player.Player) [2]int {
	keys, deltas := p.Cost()
	return [2]int{keys, deltas}
}

// P23.1: a player, and what is none.
func TestNew(t *testing.T) {
	f := open(t, recording(t, 5, 2))
	for store, want := range map[int]api.Errno{0: api.OK, 1: api.OK, 64: api.OK, -1: api.ErrArg, 65: api.ErrArg, low: api.ErrArg, high: api.ErrArg} {
		p, err := player.New(f, store)
		if err != want || (p == nil) != (want != api.OK) {
			t.Errorf("a store of %d: %v", store, err)
		}
		if p != nil && (p.Tick() != 0 || p.Ticks() != 5 || p.File() != f || cost(p) != [2]int{}) {
			t.Errorf("a store of %d: %d, %d", store, p.Tick(), p.Ticks())
		}
	}
	for _, store := range []int{0, -1} {
		if p, err := player.New(nil, store); err != api.ErrNil || p != nil {
			t.Errorf("no file: %v", err)
		}
	}
}

// P23.1: the cursor, and ticks that there are not.
func TestCursor(t *testing.T) {
	p := fresh(t, open(t, recording(t, 5, 2)), 2)
	for _, r := range []struct {
		name string
		do   func() api.Errno
		want api.Errno
		at   int
	}{
		{"back from the first", p.Back, api.ErrRange, 0},
		{"a step", p.Step, api.OK, 1},
		{"the last", func() api.Errno { return p.Seek(5) }, api.OK, 5},
		{"a step behind the last", p.Step, api.ErrRange, 5},
		{"back", p.Back, api.OK, 4},
		{"behind the last", func() api.Errno { return p.Seek(6) }, api.ErrRange, 4},
		{"ahead of the first", func() api.Errno { return p.Seek(-1) }, api.ErrRange, 4},
		{"far behind", func() api.Errno { return p.Seek(high) }, api.ErrRange, 4},
		{"far ahead", func() api.Errno { return p.Seek(low) }, api.ErrRange, 4},
		{"the first", func() api.Errno { return p.Seek(0) }, api.OK, 0},
	} {
		if err := r.do(); err != r.want || p.Tick() != r.at || cost(p) != [2]int{} {
			t.Errorf("%s: %v, at %d", r.name, err, p.Tick())
		}
	}
}

// P23.2: the example, and those of the whole.
func TestCost(t *testing.T) {
	p := fresh(t, open(t, recording(t, 3, 2)), 2)
	show := func(p *player.Player) [2]int {
		t.Helper()
		if _, err := p.Show(); err != api.OK {
			t.Fatal(err)
		}
		return cost(p)
	}
	p.Seek(3)
	if got := show(p); got != [2]int{1, 1} {
		t.Errorf("at 3: %v", got)
	}
	p.Back()
	if got := show(p); got != [2]int{1, 0} {
		t.Errorf("back at 2: %v", got)
	}
	p.Step()
	if got := show(p); got != [2]int{0, 0} {
		t.Errorf("again at 3: %v", got)
	}
	f := open(t, recording(t, 100, 10))
	p = fresh(t, f, 1)
	p.Seek(57)
	if got := show(p); got != [2]int{1, 7} {
		t.Errorf("at 57: %v", got)
	}
	p.Step()
	if got := show(p); got != [2]int{0, 1} {
		t.Errorf("a step to 58: %v", got)
	}
	p.Seek(50)
	show(p)
	p.Back()
	if got := show(p); got != [2]int{1, 9} {
		t.Errorf("back at 49: %v", got)
	}
	p = fresh(t, f, 2)
	p.Seek(49)
	show(p)
	p.Step()
	show(p)
	p.Back()
	if got := show(p); got != [2]int{0, 0} {
		t.Errorf("back at 49, that is in the store: %v", got)
	}
	p = fresh(t, f, 0)
	for range 2 {
		if got := show(p); got != [2]int{1, 0} {
			t.Errorf("no store: %v", got)
		}
	}
}

// model is a player by the words of the chapter: all frames are known, the store is a row of ticks.
type model struct {
	n, k, room, cursor int
	row                []int // the one that was got last stands last
}

// get is the cost of getting the frame of the cursor's tick.
func (m *model) get() [2]int {
	key := m.cursor / m.k * m.k
	best := -1
	for _, tick := range m.row {
		if tick >= key && tick <= m.cursor {
			best = max(best, tick)
		}
	}
	cost := [2]int{0, m.cursor - best}
	if best < 0 {
		cost = [2]int{1, m.cursor - key}
	}
	m.row = slices.DeleteFunc(m.row, func(tick int) bool { return tick == m.cursor })
	m.row = append(m.row, m.cursor)
	if len(m.row) > m.room {
		m.row = m.row[1:]
	}
	return cost
}

// P23.2, P23.4: of any requests, what is shown is the game's, at just the cost that the words come to.
func TestAny(t *testing.T) {
	rnd := rand.New(rand.NewSource(1))
	for _, k := range []int{1, 2, 7, 20, 256} {
		x := recording(t, 45, k)
		f := open(t, x)
		for _, room := range []int{0, 1, 2, 5, 64} {
			p := fresh(t, f, room)
			m := &model{n: 45, k: k, room: room}
			for range 150 {
				switch rnd.Intn(4) {
				case 0:
					m.cursor = rnd.Intn(46)
					p.Seek(m.cursor)
				case 1:
					p.Step()
					m.cursor = min(45, m.cursor+1)
				case 2:
					p.Back()
					m.cursor = max(0, m.cursor-1)
				}
				check(t, p, m, x, rnd.Intn(3)-1)
			}
		}
	}
}

// check shows the cursor's tick, or views it by a player (not below 0).
func check(t *testing.T, p *player.Player, m *model, x file.Parts, who int) {
	t.Helper()
	want := x.Frames[m.cursor]
	var got []byte
	var err api.Errno
	if who < 0 {
		got, err = p.Show()
	} else {
		s, _ := state.Take(x.Header, want)
		want = fog.View(s, who)
		got, err = p.View(who)
	}
	need := m.get()
	if err != api.OK || !bytes.Equal(got, want) || p.Tick() != m.cursor {
		t.Fatalf("tick %d of %d apart, a store of %d: %v", m.cursor, m.k, m.room, err)
	}
	if cost(p) != need || need[0] > 1 || need[1] > m.cursor%m.k {
		t.Fatalf("tick %d of %d apart, a store of %d: the cost %v, want %v", m.cursor, m.k, m.room, cost(p), need)
	}
}

// P23.2: a player that the header does not have; the cost is still that of the call that got a frame.
func TestViewFaults(t *testing.T) {
	p := fresh(t, open(t, recording(t, 5, 3)), 2)
	p.Seek(2)
	p.Show()
	for _, who := range []int{-1, 2, 3, 4, low, high} {
		if b, err := p.View(who); err != api.ErrArg || len(b) != 0 || cost(p) != [2]int{1, 2} {
			t.Errorf("the player %d: %v, %v", who, err, cost(p))
		}
	}
}

// broken is a file some of whose frames can't be decoded, or are no states.
func broken(t *testing.T) *file.File {
	x := recording(t, 11, 4)
	x.Frames[2] = x.Frames[2][:20] // no state, but the next one is told from it
	x.Frames[8] = nil
	return rewritten(t, x)
}

// P23.2, P23.4: what can't be decoded, and what is no state, fails alike however the cursor came there, and does not go to the store.
func TestBroken(t *testing.T) {
	f := broken(t)
	want := []api.Errno{0, 0, api.ErrShort, 0, 0, 0, api.ErrShort, api.ErrShort, api.ErrShort, 0, 0, 0}
	costs := [][2]int{{1, 0}, {1, 1}, {1, 2}, {1, 3}, {1, 0}, {1, 1}, {1, 2}, {1, 2}, {1, 0}, {1, 1}, {1, 2}, {1, 3}}
	for tick := range want {
		p := fresh(t, f, 0)
		p.Seek(tick)
		if b, err := p.Show(); err != want[tick] || err != api.OK && len(b) != 0 || cost(p) != costs[tick] {
			t.Errorf("tick %d: %v, %v, want %v, %v", tick, err, cost(p), want[tick], costs[tick])
		}
	}
	rnd := rand.New(rand.NewSource(2))
	for _, room := range []int{0, 1, 3, 64} {
		p := fresh(t, f, room)
		for range 200 {
			p.Seek(rnd.Intn(12))
			if _, err := p.Show(); err != want[p.Tick()] {
				t.Fatalf("tick %d, a store of %d: %v", p.Tick(), room, err)
			}
			if _, err := p.View(rnd.Intn(2)); err != want[p.Tick()] {
				t.Fatalf("tick %d, a store of %d: the view: %v", p.Tick(), room, err)
			}
		}
	}
	p := fresh(t, f, 8)
	p.Seek(7)
	p.Show()
	p.Show()
	if cost(p) != [2]int{1, 2} {
		t.Errorf("what can't be decoded is in the store: %v", cost(p))
	}
	p.Seek(8)
	p.Show()
	p.Show()
	if cost(p) != [2]int{0, 0} {
		t.Errorf("what is no state, but was decoded, is not in the store: %v", cost(p))
	}
}

// P23.3: the camera at the cursor's tick.
func TestCamera(t *testing.T) {
	p := fresh(t, open(t, recording(t, 10, 3)), 2)
	for tick, want := range map[int]fix.Point{0: {X: 100, Y: 200}, 5: {X: 200, Y: 100}, 10: {X: 300, Y: 0}} {
		p.Seek(tick)
		if at, err := p.Camera(0); at != want || err != api.OK {
			t.Errorf("tick %d: %v, %v", tick, at, err)
		}
	}
	for who, want := range map[int]api.Errno{1: api.ErrNone, 2: api.ErrArg, 3: api.ErrArg, 4: api.ErrArg, -1: api.ErrArg, high: api.ErrArg} {
		if at, err := p.Camera(who); at != (fix.Point{}) || err != want {
			t.Errorf("the player %d: %v, %v", who, at, err)
		}
	}
	if cost(p) != [2]int{} {
		t.Error("a camera costs a frame")
	}
}

// P23.3: bookmarks are put, taken away, and gone to.
func TestMarks(t *testing.T) {
	x := recording(t, 10, 3)
	p := fresh(t, open(t, x), 2)
	p.Seek(4)
	if p.Mark("b") != api.OK || p.Mark("c") != api.OK || p.Tick() != 4 {
		t.Fatal("Mark")
	}
	p.Seek(10)
	p.Mark("end")
	want := []track.Mark{{Tick: 0, Name: "first"}, {Tick: 4, Name: "b"}, {Tick: 4, Name: "c"}, {Tick: 10, Name: "last"}, {Tick: 10, Name: "end"}}
	if !slices.Equal(p.Marks(), want) || !slices.Equal(p.Track().Marks, want) {
		t.Fatalf("%v", p.Marks())
	}
	if p.Goto(1) != api.OK || p.Tick() != 4 || p.Goto(4) != api.OK || p.Tick() != 10 || p.Goto(0) != api.OK || p.Tick() != 0 {
		t.Error("Goto")
	}
	for _, i := range []int{-1, 5, low, high} {
		if p.Goto(i) != api.ErrNone || p.Unmark(i) != api.ErrNone || p.Tick() != 0 {
			t.Errorf("the bookmark %d", i)
		}
	}
	if p.Unmark(1) != api.OK || !slices.Equal(p.Marks(), slices.Delete(slices.Clone(want), 1, 2)) {
		t.Errorf("Unmark: %v", p.Marks())
	}
	if p.Mark(strings.Repeat("x", 41)) != api.ErrArg || len(p.Marks()) != 4 {
		t.Error("a long name")
	}
	for range api.MaxMarks - 4 {
		if err := p.Mark("m"); err != api.OK {
			t.Fatal(err)
		}
	}
	full := p.Marks()
	if p.Mark("one more") != api.ErrFull || !slices.Equal(p.Marks(), full) || len(full) != api.MaxMarks {
		t.Error("full")
	}
	if got := p.File().Parts().Track.Marks; !slices.Equal(got, x.Track.Marks) {
		t.Errorf("the file's own: %v", got)
	}
}

// R1: of nil.
func TestNil(t *testing.T) {
	var p *player.Player
	b, err := p.Show()
	v, err2 := p.View(-1)
	at, err3 := p.Camera(-1)
	if err != api.ErrNil || err2 != api.ErrNil || err3 != api.ErrNil || len(b) != 0 || len(v) != 0 || at != (fix.Point{}) {
		t.Error(err, err2, err3)
	}
	if p.Seek(-1) != api.ErrNil || p.Step() != api.ErrNil || p.Back() != api.ErrNil || p.Mark("") != api.ErrNil || p.Unmark(0) != api.ErrNil || p.Goto(0) != api.ErrNil {
		t.Error("an error of nil")
	}
	if p.Tick() != 0 || p.Ticks() != 0 || len(p.Marks()) != 0 || len(p.Track().Marks) != 0 || p.File() != nil || cost(p) != [2]int{} {
		t.Error("something of nil")
	}
}

// R3: what is handed out is new memory.
func TestMemory(t *testing.T) {
	x := recording(t, 6, 3)
	f := open(t, x)
	p := fresh(t, f, 4)
	q := fresh(t, f, 4)
	p.Seek(2)
	b, _ := p.Show()
	clear(b)
	if b, err := p.Show(); err != api.OK || !bytes.Equal(b, x.Frames[2]) {
		t.Error("a frame is shared")
	}
	p.Step()
	if b, err := p.Show(); err != api.OK || !bytes.Equal(b, x.Frames[3]) {
		t.Error("a frame is shared with the next one")
	}
	p.Marks()[0].Name = "changed"
	p.Track().Marks[0].Name = "changed"
	p.Track().Cameras[0][0].Tick = 77
	if p.Marks()[0].Name != "first" || p.Track().Cameras[0][0].Tick != 0 {
		t.Error("the track is shared")
	}
	p.Mark("mine")
	if len(q.Marks()) != 2 || q.Tick() != 0 {
		t.Error("players share something")
	}
}

// P23.4: two players of unlike stores, that came by unlike ways, show the same.
func TestAlike(t *testing.T) {
	f := open(t, recording(t, 30, 8))
	rnd := rand.New(rand.NewSource(3))
	p, q := fresh(t, f, 0), fresh(t, f, 64)
	for range 200 {
		to := rnd.Intn(31)
		p.Seek(to)
		for q.Tick() != to {
			if q.Tick() < to {
				q.Step()
			} else {
				q.Back()
			}
			if rnd.Intn(3) == 0 {
				q.Show()
			}
		}
		a, err := p.Show()
		b, err2 := q.Show()
		if err != err2 || !bytes.Equal(a, b) {
			t.Fatalf("tick %d: %v, %v", to, err, err2)
		}
	}
}
