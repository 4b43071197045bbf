package track_test

import (
	"bytes"
	"math/rand"
	"slices"
	"strings"
	"testing"

	"rematch/api"
	"rematch/fix"
	"rematch/track"
	"rematch/wire"
)

const least, most = -1 << 63, 1<<63 - 1

func same(a, b track.Track) bool {
	for i := range a.Cameras {
		if !slices.Equal(a.Cameras[i], b.Cameras[i]) {
			return false
		}
	}
	return slices.Equal(a.Marks, b.Marks)
}

func point(tick, x, y int) track.Point {
	return track.Point{Tick: tick, At: fix.Point{X: fix.Num(x), Y: fix.Num(y)}}
}

// seen is a track of one camera.
func seen(points ...track.Point) track.Track {
	return track.Track{Cameras: [api.MaxPlayers][]track.Point{2: points}}
}

func marked(marks ...track.Mark) track.Track {
	return track.Track{Marks: marks}
}

// many are so many points, or bookmarks, from the tick 0 on.
func many(n int) (points []track.Point, marks []track.Mark) {
	for i := range n {
		points = append(points, point(i, i, 2*i))
		marks = append(marks, track.Mark{Tick: i, Name: "m"})
	}
	return points, marks
}

// some is a track that may be, of n ticks.
func some(rnd *rand.Rand, n int) track.Track {
	var t track.Track
	for i := range t.Cameras {
		for _, tick := range rnd.Perm(n + 1)[:rnd.Intn(min(n+1, api.MaxPoints)+1)] {
			t.Cameras[i] = append(t.Cameras[i], point(tick, rnd.Intn(16385), rnd.Intn(16385)))
		}
		slices.SortFunc(t.Cameras[i], func(a, b track.Point) int { return a.Tick - b.Tick })
	}
	for range rnd.Intn(api.MaxMarks + 1) {
		t.Marks = append(t.Marks, track.Mark{Tick: rnd.Intn(n + 1), Name: strings.Repeat("\xc3\x00", rnd.Intn(21))})
	}
	slices.SortStableFunc(t.Marks, func(a, b track.Mark) int { return a.Tick - b.Tick })
	return t
}

// raw is a track's bytes, whether it may be or not.
func raw(t track.Track) []byte {
	var b []byte
	for _, camera := range t.Cameras {
		b = wire.Put(b, uint64(len(camera)))
		last := 0
		for _, p := range camera {
			b = wire.Put(wire.Put(wire.Put(b, uint64(p.Tick-last)), uint64(p.At.X)), uint64(p.At.Y))
			last = p.Tick
		}
	}
	b = wire.Put(b, uint64(len(t.Marks)))
	last := 0
	for _, m := range t.Marks {
		b = wire.PutText(wire.Put(b, uint64(m.Tick-last)), m.Name)
		last = m.Tick
	}
	return b
}

// P19.1: which tracks may be; what may not be has no bytes, and what has its bytes is refused.
func TestMay(t *testing.T) {
	points, marks := many(65)
	long := strings.Repeat("x", 41)
	for _, r := range []struct {
		name string
		t    track.Track
		n    int
		want bool
	}{
		{"empty", track.Track{}, 0, true},
		{"empty, 4096 ticks", track.Track{}, 4096, true},
		{"64 points", seen(points[:64]...), 63, true},
		{"65 points", seen(points...), 100, false},
		{"a point at the last tick", seen(point(9, 0, 0)), 9, true},
		{"a point too late", seen(point(10, 0, 0)), 9, false},
		{"two at one tick", seen(point(3, 0, 0), point(3, 1, 1)), 9, false},
		{"two at the tick 0", seen(point(0, 0, 0), point(0, 1, 1)), 9, false},
		{"the edge", seen(point(0, 16384, 16384)), 9, true},
		{"X behind the edge", seen(point(0, 16385, 0)), 9, false},
		{"Y behind the edge", seen(point(0, 0, 16385)), 9, false},
		{"X far behind the edge", seen(point(0, 1<<31-1, 0)), 9, false},
		{"32 bookmarks", marked(marks[:32]...), 31, true},
		{"33 bookmarks", marked(marks[:33]...), 100, false},
		{"a bookmark at the last tick", marked(track.Mark{Tick: 9}), 9, true},
		{"a bookmark too late", marked(track.Mark{Tick: 10}), 9, false},
		{"two bookmarks at one tick", marked(track.Mark{Tick: 9, Name: "b"}, track.Mark{Tick: 9, Name: "a"}), 9, true},
		{"40 bytes", marked(track.Mark{Name: long[:40]}), 9, true},
		{"41 bytes", marked(track.Mark{Name: long}), 9, false},
	} {
		b, err := r.t.Bytes(r.n)
		back, took := track.Take(raw(r.t), r.n)
		if r.t.May(r.n) != r.want {
			t.Errorf("%s: %v", r.name, !r.want)
		}
		if r.want && (err != api.OK || !bytes.Equal(b, raw(r.t)) || took != api.OK || !same(back, r.t)) {
			t.Errorf("%s: %v, %v", r.name, err, took)
		}
		if !r.want && (err != api.ErrArg || len(b) != 0 || took != api.ErrForm || !same(back, track.Track{})) {
			t.Errorf("%s: %v, %v", r.name, err, took)
		}
	}
	for name, x := range map[string]track.Track{
		"points fall":       seen(point(3, 0, 0), point(2, 0, 0)),
		"a point below 0":   seen(point(-1, 0, 0)),
		"far below 0":       seen(point(least, 0, 0)),
		"X below 0":         seen(point(0, -1, 0)),
		"Y below 0":         seen(point(0, 0, -1)),
		"bookmarks fall":    marked(track.Mark{Tick: 3}, track.Mark{Tick: 2}),
		"a bookmark at -1":  marked(track.Mark{Tick: -1}),
		"a bookmark at all": marked(track.Mark{Tick: most}),
	} {
		if _, err := x.Bytes(9); x.May(9) || err != api.ErrArg {
			t.Errorf("%s: %v", name, err)
		}
	}
	for _, n := range []int{-1, 4097, least, most} {
		var x track.Track
		_, err := x.Bytes(n)
		_, took := track.Take(raw(x), n)
		_, added := x.Add(track.Mark{}, n)
		if x.May(n) || err != api.ErrArg || took != api.ErrArg || added != api.ErrArg {
			t.Errorf("%d ticks: %v, %v, %v", n, err, took, added)
		}
	}
}

// P19.1: a track's bytes, one behind the other.
func TestBytes(t *testing.T) {
	x := seen(point(2, 300, 0), point(5, 1, 16384))
	x.Marks = []track.Mark{{Tick: 1, Name: "a"}, {Tick: 1, Name: ""}, {Tick: 4, Name: "bc"}}
	want := "\x00\x00" + "\x02\x02\xac\x02\x00\x03\x01\x80\x80\x01" + "\x00" + "\x03\x01\x01a\x00\x00\x03\x02bc"
	if b, err := x.Bytes(5); err != api.OK || string(b) != want {
		t.Errorf("%x, %v", b, err)
	}
	for n := range len(want) {
		if back, err := track.Take([]byte(want[:n]), 5); err != api.ErrShort || !same(back, track.Track{}) {
			t.Errorf("%d bytes: %v", n, err)
		}
	}
}

// P19.1: which error wrong bytes meet.
func TestTakeFaults(t *testing.T) {
	end := "\xff\xff\xff\xff\xff\xff\xff\xff\xff\x01"
	for _, r := range []struct {
		name, b string
		want    api.Errno
	}{
		{"none", "", api.ErrShort},
		{"a byte more", "\x00\x00\x00\x00\x00\x00", api.ErrForm},
		{"a number too long", "\x80\x00", api.ErrForm},
		{"points without end", end, api.ErrShort},
		{"points without end, and some", end + "\x00\x00\x00\x00\x00\x00", api.ErrShort},
		{"bookmarks without end", "\x00\x00\x00\x00" + end + "\x00\x01a", api.ErrShort},
		{"later beyond Int", "\x01\x80\x80\x80\x80\x08\x00\x00", api.ErrForm},
		{"X beyond Int", "\x01\x00\x80\x80\x80\x80\x08\x00", api.ErrForm},
		{"X, most of Int", "\x01\x00\xff\xff\xff\xff\x07\x00\x00\x00\x00\x00", api.ErrForm},
		{"X, most of Int, and short", "\x01\x00\xff\xff\xff\xff\x07\x00\x00\x00\x00", api.ErrShort},
		{"a name of 41 bytes", "\x00\x00\x00\x00\x01\x00\x29" + strings.Repeat("x", 41), api.ErrForm},
		{"a name of 41 bytes that is not there", "\x00\x00\x00\x00\x01\x00\x29", api.ErrForm},
		{"a name of 40 bytes that is not there", "\x00\x00\x00\x00\x01\x00\x28", api.ErrShort},
		{"a bookmark too late, and short", "\x00\x00\x00\x00\x02\x0a\x00", api.ErrShort},
	} {
		if x, err := track.Take([]byte(r.b), 9); err != r.want || !same(x, track.Track{}) {
			t.Errorf("%s: %v, want %v", r.name, err, r.want)
		}
	}
}

// P19.2: the example, and cameras that there are not.
func TestCamera(t *testing.T) {
	x := seen(point(0, 0, 0), point(4, 256, 512))
	for tick, want := range map[int]fix.Point{0: {}, 1: {X: 64, Y: 128}, 2: {X: 128, Y: 256}, 4: {X: 256, Y: 512}, 9: {X: 256, Y: 512}, -5: {}, least: {}, most: {X: 256, Y: 512}} {
		if at, err := x.Camera(2, tick); at != want || err != api.OK {
			t.Errorf("tick %d: %v, %v", tick, at, err)
		}
	}
	later := seen(point(3, 10, 20), point(5, 20, 10), point(8, 0, 100))
	for tick, want := range map[int]fix.Point{0: {X: 10, Y: 20}, 3: {X: 10, Y: 20}, 4: {X: 15, Y: 15}, 5: {X: 20, Y: 10}, 6: {X: 14, Y: 40}, 7: {X: 7, Y: 70}, 8: {X: 0, Y: 100}} {
		if at, err := later.Camera(2, tick); at != want || err != api.OK {
			t.Errorf("tick %d: %v, %v", tick, at, err)
		}
	}
	for player, want := range map[int]api.Errno{0: api.ErrNone, 1: api.ErrNone, 3: api.ErrNone, 4: api.ErrArg, -1: api.ErrArg, most: api.ErrArg} {
		if at, err := x.Camera(player, 1); at != (fix.Point{}) || err != want {
			t.Errorf("the player %d: %v, %v", player, at, err)
		}
	}
	strange := seen(point(5, 1, 1), point(-9, 2, 2), point(least, 3, 3), point(most, 4, 4))
	for tick := -20; tick < 20; tick++ {
		if _, err := strange.Camera(2, tick); err != api.OK {
			t.Errorf("a strange track, tick %d: %v", tick, err)
		}
	}
}

// P19.3: a bookmark more, behind all of its tick; without one.
func TestAddDrop(t *testing.T) {
	var x track.Track
	for _, m := range []track.Mark{{5, "a"}, {2, "b"}, {5, "c"}, {9, "d"}, {2, "e"}, {0, "f"}} {
		var err api.Errno
		if x, err = x.Add(m, 9); err != api.OK {
			t.Fatal(err)
		}
	}
	if want := []track.Mark{{0, "f"}, {2, "b"}, {2, "e"}, {5, "a"}, {5, "c"}, {9, "d"}}; !slices.Equal(x.Marks, want) {
		t.Errorf("%v", x.Marks)
	}
	y, err := x.Drop(2)
	if want := []track.Mark{{0, "f"}, {2, "b"}, {5, "a"}, {5, "c"}, {9, "d"}}; err != api.OK || !slices.Equal(y.Marks, want) {
		t.Errorf("%v, %v", y.Marks, err)
	}
	if y, err := x.Drop(0); err != api.OK || !slices.Equal(y.Marks, x.Marks[1:]) {
		t.Errorf("the first one: %v, %v", y.Marks, err)
	}
	if y, err := x.Drop(5); err != api.OK || !slices.Equal(y.Marks, x.Marks[:5]) {
		t.Errorf("the last one: %v, %v", y.Marks, err)
	}
	for _, i := range []int{-1, 6, least, most} {
		if y, err := x.Drop(i); err != api.ErrNone || !same(y, x) {
			t.Errorf("the bookmark %d: %v", i, err)
		}
	}
	if _, err := (track.Track{}).Drop(0); err != api.ErrNone {
		t.Errorf("no bookmarks: %v", err)
	}
}

// P19.3: what may not be added; ErrArg ahead of ErrFull; the track is as it was.
func TestAddFaults(t *testing.T) {
	_, marks := many(33)
	full, over := marked(marks[:32]...), marked(marks...)
	for _, r := range []struct {
		name string
		t    track.Track
		m    track.Mark
		n    int
		want api.Errno
	}{
		{"full", full, track.Mark{Tick: 3}, 99, api.ErrFull},
		{"full, too late", full, track.Mark{Tick: 100}, 99, api.ErrArg},
		{"one too many already", over, track.Mark{Tick: 3}, 99, api.ErrArg},
		{"too late", track.Track{}, track.Mark{Tick: 10}, 9, api.ErrArg},
		{"below 0", track.Track{}, track.Mark{Tick: -1}, 9, api.ErrArg},
		{"a long name", track.Track{}, track.Mark{Name: strings.Repeat("x", 41)}, 9, api.ErrArg},
		{"a track that may not be", seen(point(10, 0, 0)), track.Mark{}, 9, api.ErrArg},
		{"just a name", track.Track{}, track.Mark{Tick: 9, Name: strings.Repeat("x", 40)}, 9, api.OK},
	} {
		got, err := r.t.Add(r.m, r.n)
		if err != r.want || err != api.OK && !same(got, r.t) {
			t.Errorf("%s: %v, want %v", r.name, err, r.want)
		}
	}
}

// P19.3, R3: tracks are told by their value.
func TestMemory(t *testing.T) {
	room := make([]track.Mark, 2, 9)
	room[0], room[1] = track.Mark{Tick: 1, Name: "a"}, track.Mark{Tick: 5, Name: "b"}
	x := seen(point(1, 2, 3))
	x.Marks = room
	for _, f := range []func() (track.Track, api.Errno){
		func() (track.Track, api.Errno) { return x.Add(track.Mark{Tick: 3, Name: "c"}, 9) },
		func() (track.Track, api.Errno) { return x.Add(track.Mark{Tick: 9, Name: "c"}, 9) },
		func() (track.Track, api.Errno) { return x.Add(track.Mark{Tick: 99}, 9) },
		func() (track.Track, api.Errno) { return x.Drop(0) },
		func() (track.Track, api.Errno) { return x.Drop(7) },
	} {
		y, _ := f()
		y.Cameras[2][0].Tick, y.Marks[0].Name = 77, "changed"
		if room[0].Name != "a" || room[1].Name != "b" || room[:3][2].Name != "" || x.Cameras[2][0].Tick != 1 {
			t.Fatal("tracks share memory")
		}
	}
	b, _ := x.Bytes(9)
	y, _ := track.Take(b, 9)
	clear(b)
	if !same(x, y) {
		t.Error("bytes are kept")
	}
}

// P19.4: what is put is taken as itself, and bytes that are taken are put as themselves.
func TestPutTake(t *testing.T) {
	rnd := rand.New(rand.NewSource(1))
	taken := 0
	for range 3000 {
		n := rnd.Intn(80)
		x := some(rnd, n)
		b, err := x.Bytes(n)
		back, took := track.Take(b, n)
		if err != api.OK || took != api.OK || !same(back, x) {
			t.Fatalf("%v, %v", err, took)
		}
		b[rnd.Intn(len(b))] ^= byte(1 << rnd.Intn(8))
		if back, err := track.Take(b, n); err == api.OK {
			taken++
			if again, err := back.Bytes(n); err != api.OK || !bytes.Equal(again, b) {
				t.Fatalf("%x becomes %x", b, again)
			}
		}
	}
	if taken < 100 {
		t.Errorf("only %d were taken", taken)
	}
}

// P19.4: at a point's tick a camera is there; between two it goes on, never back.
func TestNeverBack(t *testing.T) {
	rnd := rand.New(rand.NewSource(2))
	for range 100 {
		x := some(rnd, 60)
		for player, points := range x.Cameras {
			for i, p := range points {
				if at, err := x.Camera(player, p.Tick); at != p.At || err != api.OK {
					t.Fatalf("%v at %v", p, at)
				}
				if i == 0 {
					continue
				}
				was := points[i-1].At
				for tick := points[i-1].Tick; tick <= p.Tick; tick++ {
					at, _ := x.Camera(player, tick)
					if away(at.X, p.At.X) > away(was.X, p.At.X) || away(at.Y, p.At.Y) > away(was.Y, p.At.Y) {
						t.Fatalf("back, at the tick %d", tick)
					}
					was = at
				}
			}
		}
	}
}

func away(a, b fix.Num) fix.Num { return max(a-b, b-a) }
