package track

import (
	"rematch/api"
	"rematch/fix"
	"rematch/wire"
)

// put puts varints behind bytes.
func put(b []byte, numbers ...int) []byte {
	for _, n := range numbers {
		b = append(b, wire.Put(nil, uint64(n))...)
	}
	return b
}

// Bytes are a track's.
func (t Track) Bytes(n int) ([]byte, api.Errno) {
	if !t.May(n) {
		return nil, api.ErrArg
	}
	var b []byte
	for _, camera := range t.Cameras {
		b = put(b, len(camera))
		last := 0
		for _, p := range camera {
			b = put(b, p.Tick-last, int(p.At.X), int(p.At.Y))
			last = p.Tick
		}
	}
	b = put(b, len(t.Marks))
	last := 0
	for _, m := range t.Marks {
		b = put(b, m.Tick-last)
		b = append(b, wire.PutText(nil, m.Name)...)
		last = m.Tick
	}
	return b, api.OK
}

// Take is the track of bytes. What may not be is told only behind what the reader refuses.
func Take(b []byte, n int) (Track, api.Errno) {
	if !ticks(n) {
		return Track{}, api.ErrArg
	}
	r := wire.Of(b)
	var t Track
	for i := range t.Cameras {
		t.Cameras[i] = takeCamera(r)
	}
	last := 0
	for left := r.Num(); left > 0 && r.Err() == api.OK; left-- {
		last += r.Int()
		t.Marks = append(t.Marks, Mark{last, r.Text(api.MaxName)})
	}
	if err := r.End(); err != api.OK {
		return Track{}, err
	}
	if !t.May(n) {
		return Track{}, api.ErrForm
	}
	return t, api.OK
}

func takeCamera(r *wire.Reader) []Point {
	var out []Point
	last := 0
	for left := r.Num(); left > 0 && r.Err() == api.OK; left-- {
		last += r.Int()
		x, y := r.Int(), r.Int()
		out = append(out, Point{last, fix.Point{X: fix.Num(x), Y: fix.Num(y)}})
	}
	return out
}
