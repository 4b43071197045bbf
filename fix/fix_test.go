package fix_test

import (
	"math/big"
	"math/rand"
	"testing"

	"rematch/fix"
)

const edge = 1 << 20

// strange are points of which nothing is asked.
func strange() []fix.Point {
	return []fix.Point{{X: edge + 1}, {X: -edge - 1}, {Y: edge + 1}, {Y: -edge - 1}, {X: -1 << 31, Y: 1<<31 - 1}}
}

// some is any point that is asked of, often at the edges.
func some(rnd *rand.Rand) fix.Point {
	one := func() fix.Num {
		switch rnd.Intn(4) {
		case 0:
			return []fix.Num{-edge, edge, 0, -1, 1}[rnd.Intn(5)]
		case 1:
			return fix.Num(rnd.Intn(2*edge+1) - edge)
		}
		return fix.Num(rnd.Intn(64 * 256))
	}
	return fix.Point{X: one(), Y: one()}
}

// P5.1: the greatest whole number whose square is at most n.
func TestRoot(t *testing.T) {
	nums := []uint64{0, 1, 2, 3, 4, 8, 9, 15, 16, 1<<64 - 1, 1 << 63, (1<<32 - 1) * (1<<32 - 1), (1<<32-1)*(1<<32-1) - 1}
	rnd := rand.New(rand.NewSource(1))
	for range 2000 {
		n := rnd.Uint64() >> rnd.Intn(64)
		r := uint64(rnd.Uint32() >> rnd.Intn(32))
		nums = append(nums, n, r*r, r*r-1, r*r+1)
	}
	for _, n := range nums {
		want := new(big.Int).Sqrt(new(big.Int).SetUint64(n)).Uint64()
		if got := fix.Root(n); got != want {
			t.Errorf("Root(%d): %d, want %d", n, got, want)
		}
	}
}

// P5.1: the middle of a tile.
func TestMiddle(t *testing.T) {
	for _, r := range []struct {
		x, y int
		want fix.Point
	}{
		{0, 0, fix.Point{X: 128, Y: 128}}, {1, 0, fix.Point{X: 384, Y: 128}}, {63, 63, fix.Point{X: 16256, Y: 16256}},
		{64, 0, fix.Point{}}, {0, 64, fix.Point{}}, {-1, 0, fix.Point{}}, {0, -1, fix.Point{}}, {1 << 62, -1 << 63, fix.Point{}},
	} {
		if got := fix.Middle(r.x, r.y); got != r.want {
			t.Errorf("Middle(%d, %d): %v", r.x, r.y, got)
		}
	}
}

// P5.1: the distance.
func TestFar(t *testing.T) {
	o := fix.Point{}
	for _, r := range []struct {
		p, q fix.Point
		want fix.Num
	}{
		{o, fix.Point{X: 768, Y: 1024}, 1280}, {o, o, 0}, {o, fix.Point{X: 1, Y: 1}, 1}, {o, fix.Point{X: -2, Y: 2}, 2},
		{fix.Point{X: -edge, Y: -edge}, fix.Point{X: edge, Y: edge}, 2965820},
		{fix.Point{X: -edge}, fix.Point{X: edge}, 2 * edge},
	} {
		if got := r.p.Far(r.q); got != r.want || r.q.Far(r.p) != r.want {
			t.Errorf("%v to %v: %d, want %d", r.p, r.q, got, r.want)
		}
	}
	for _, s := range strange() {
		if o.Far(s) != 0 || s.Far(o) != 0 {
			t.Errorf("%v is asked of", s)
		}
	}
}

// P5.2: a step toward a point.
func TestToward(t *testing.T) {
	o := fix.Point{}
	for _, r := range []struct {
		q     fix.Point
		step  fix.Num
		want  fix.Point
		there bool
	}{
		{fix.Point{X: 768, Y: 1024}, 256, fix.Point{X: 153, Y: 204}, false},
		{fix.Point{X: -768, Y: -1024}, 256, fix.Point{X: -153, Y: -204}, false},
		{fix.Point{X: 256}, 256, fix.Point{X: 256}, true},
		{fix.Point{X: 257}, 256, fix.Point{X: 256}, false},
		{fix.Point{X: 3}, 1, fix.Point{X: 1}, false},
		{fix.Point{X: 1, Y: 1}, 1, fix.Point{X: 1, Y: 1}, true}, // 1 far, rounded down
		{o, 1, o, true},
		{fix.Point{X: 9}, 0, o, false},
		{fix.Point{X: 9}, -1, o, false},
		{fix.Point{X: 9}, 257, o, false},
		{o, 0, o, false},
		{o, 257, o, false},
	} {
		if got, there := o.Toward(r.q, r.step); got != r.want || there != r.there {
			t.Errorf("to %v by %d: %v, %v", r.q, r.step, got, there)
		}
	}
	p := fix.Point{X: 50, Y: -60}
	if got, there := p.Toward(fix.Point{}, 0); got != p || there {
		t.Errorf("a step of 0: %v, %v", got, there)
	}
	for _, s := range strange() {
		if got, there := p.Toward(s, 9); got != o || there {
			t.Errorf("to %v: %v, %v", s, got, there)
		}
		if got, there := s.Toward(p, 0); got != o || there {
			t.Errorf("from %v: %v, %v", s, got, there)
		}
		if got, there := s.Toward(s, 9); got != o || there {
			t.Errorf("from %v to itself: %v, %v", s, got, there)
		}
	}
}

// P5.2: of any points, the change is what they are apart, times the step, divided by the distance.
func TestTowardAny(t *testing.T) {
	rnd := rand.New(rand.NewSource(2))
	for range 5000 {
		p, q, step := some(rnd), some(rnd), fix.Num(1+rnd.Intn(256))
		got, there := p.Toward(q, step)
		far := int64(p.Far(q))
		want := q
		if far > int64(step) {
			want.X = p.X + fix.Num((int64(q.X)-int64(p.X))*int64(step)/far)
			want.Y = p.Y + fix.Num((int64(q.Y)-int64(p.Y))*int64(step)/far)
		}
		if got != want || there != (far <= int64(step)) {
			t.Fatalf("%v to %v by %d: %v, %v, want %v", p, q, step, got, there, want)
		}
	}
}

// P5.3: a part of the way.
func TestBetween(t *testing.T) {
	p, q := fix.Point{X: 10, Y: 20}, fix.Point{X: 110, Y: -81}
	for _, r := range []struct {
		part, all int
		want      fix.Point
	}{
		{0, 4, p}, {4, 4, q}, {0, 1, p}, {1, 1, q}, {1, 4, fix.Point{X: 35, Y: -5}}, {3, 4, fix.Point{X: 85, Y: -55}}, {1 << 20, 1 << 20, q}, {1, 1 << 20, p},
		{1, 0, p}, {0, 0, p}, {-1, 4, p}, {5, 4, p}, {1, -4, p}, {5, 1<<20 + 1, p}, {1<<20 + 1, 1<<20 + 1, p}, {-1 << 63, 1<<63 - 1, p},
	} {
		if got := p.Between(q, r.part, r.all); got != r.want {
			t.Errorf("%d of %d: %v, want %v", r.part, r.all, got, r.want)
		}
	}
	for _, s := range strange() {
		if p.Between(s, 1, 2) != (fix.Point{}) || s.Between(p, 1, 2) != (fix.Point{}) || s.Between(p, 1, 0) != (fix.Point{}) {
			t.Errorf("%v is asked of", s)
		}
	}
	low, high := fix.Point{X: -edge, Y: -edge}, fix.Point{X: edge, Y: edge}
	if got := low.Between(high, 1<<20-1, 1<<20); got != (fix.Point{X: edge - 2, Y: edge - 2}) {
		t.Errorf("from edge to edge: %v", got)
	}
}

// P5.4: who steps by One is there behind as many steps as it is tiles far, and two more. (Over a map; some thousand tiles off, what is rounded away on the road comes to more.)
func TestSteps(t *testing.T) {
	rnd := rand.New(rand.NewSource(3))
	on := func() fix.Point {
		return fix.Point{X: fix.Num(rnd.Intn(64*256 + 1)), Y: fix.Num(rnd.Intn(64*256 + 1))}
	}
	for range 3000 {
		p, q := on(), on()
		most := int(p.Far(q)/fix.One) + 2
		there := false
		for range most {
			if p, there = p.Toward(q, fix.One); there {
				break
			}
		}
		if !there || p != q {
			t.Fatalf("at %v, not at %v, behind %d steps", p, q, most)
		}
	}
}

// P5.4: between goes from the one to the other one, and never back.
func TestBetweenNeverBack(t *testing.T) {
	rnd := rand.New(rand.NewSource(4))
	for range 300 {
		p, q, all := some(rnd), some(rnd), 1+rnd.Intn(200)
		was := p
		for part := range all + 1 {
			at := p.Between(q, part, all)
			if abs(q.X-at.X) > abs(q.X-was.X) || abs(q.Y-at.Y) > abs(q.Y-was.Y) {
				t.Fatalf("from %v to %v: back at %d of %d", p, q, part, all)
			}
			was = at
		}
		if was != q || p.Between(q, 0, all) != p {
			t.Fatalf("from %v to %v: the ends", p, q)
		}
	}
}

func abs(n fix.Num) fix.Num { return max(n, -n) }
