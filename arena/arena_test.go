package arena_test

import (
	"math/rand"
	"slices"
	"testing"

	"rematch/api"
	"rematch/arena"
)

type box = arena.Arena[string]

func add(t *testing.T, a box, x string) (box, uint16) {
	t.Helper()
	a, id, ok := a.Add(x)
	if !ok {
		t.Fatalf("%q is not added", x)
	}
	return a, id
}

func full(t *testing.T) box {
	var a box
	for i := range api.MaxUnits {
		var id uint16
		if a, id = add(t, a, "x"); int(id) != i {
			t.Fatalf("the id %d in the slot %d", id, i)
		}
	}
	return a
}

// P8.1: the least free slot; the example.
func TestAdd(t *testing.T) {
	var a box
	a, one := add(t, a, "a")
	a, two := add(t, a, "b")
	a = a.Drop(one)
	a, three := add(t, a, "c")
	if one != 0 || two != 1 || three != 128 {
		t.Errorf("ids %d, %d, %d", one, two, three)
	}
	f := full(t)
	if g, id, ok := f.Add("y"); g != f || id != 0 || ok {
		t.Errorf("one too many: %d, %v", id, ok)
	}
	f = f.Drop(90).Drop(30)
	f, id := add(t, f, "y")
	g, id2 := add(t, f, "z")
	if id != 30+128 || id2 != 90+128 {
		t.Errorf("ids %d, %d", id, id2)
	}
	if _, _, ok := g.Add("!"); ok {
		t.Error("one too many is added")
	}
}

// P8.1: a slot of the generation Last is given out, and then no more.
func TestLast(t *testing.T) {
	var a box
	for g := range arena.Last + 1 {
		var id uint16
		a, id = add(t, a, "x")
		if int(id) != 128*g {
			t.Fatalf("generation %d: the id %d", g, id)
		}
		a = a.Drop(id)
	}
	if a.Generation(0) != arena.Last+1 || !a.Free(0) {
		t.Errorf("behind Last: %d, %v", a.Generation(0), a.Free(0))
	}
	if _, id := add(t, a, "y"); id != 1 {
		t.Errorf("the id %d", id)
	}
	gens := make([]int, api.MaxUnits)
	for i := range gens {
		gens[i] = arena.Last + 1
	}
	dead, ok := arena.Of[string](gens, nil)
	if b, id, added := dead.Add("z"); !ok || added || id != 0 || b != dead {
		t.Error("a slot is given out behind Last")
	}
	gens[127] = arena.Last
	dead, _ = arena.Of[string](gens, nil)
	if _, id := add(t, dead, "z"); id != 65535 {
		t.Errorf("the last id of all: %d", id)
	}
}

// P8.2: the thing of an id; another one; none.
func TestGetSetDrop(t *testing.T) {
	var a box
	a, one := add(t, a, "a")
	a, two := add(t, a, "b")
	b := a.Set(one, "c")
	if x, ok := b.Get(one); x != "c" || !ok {
		t.Errorf("Set: %q, %v", x, ok)
	}
	if x, ok := a.Get(one); x != "a" || !ok {
		t.Errorf("the arena from before has %q, %v", x, ok)
	}
	if x, ok := b.Get(two); x != "b" || !ok {
		t.Errorf("the other one: %q, %v", x, ok)
	}
	c := b.Drop(one)
	if x, ok := c.Get(one); x != "" || ok {
		t.Errorf("Drop: %q, %v", x, ok)
	}
	if x, ok := b.Get(one); x != "c" || !ok {
		t.Errorf("the arena from before has %q, %v", x, ok)
	}
	for _, id := range []uint16{one, 2, 128, 129, 256, 65535} {
		x, ok := c.Get(id)
		if x != "" || ok || c.Set(id, "q") != c || c.Drop(id) != c {
			t.Errorf("the id %d is there", id)
		}
	}
}

// P8.3: ids by slots, rising; generations; what is free.
func TestIds(t *testing.T) {
	a := full(t).Drop(0).Drop(5)
	a, _ = add(t, a, "y")
	ids := a.Ids()
	want := []uint16{128, 1, 2, 3, 4, 6, 7}
	if len(ids) != 127 || !slices.Equal(ids[:7], want) {
		t.Errorf("%v", ids)
	}
	if a.Generation(0) != 1 || a.Generation(5) != 1 || a.Generation(6) != 0 || a.Free(0) || !a.Free(5) || a.Free(6) {
		t.Error("generations, or what is free")
	}
	for _, slot := range []int{-1, 128, -1 << 63, 1<<63 - 1} {
		if a.Generation(slot) != -1 || a.Free(slot) {
			t.Errorf("the slot %d is there", slot)
		}
	}
	var zero box
	if len(zero.Ids()) != 0 || zero.Generation(127) != 0 || !zero.Free(127) {
		t.Error("an arena at first")
	}
	ids[0] = 77
	if a.Ids()[0] != 128 {
		t.Error("ids that were handed out are kept")
	}
}

// P8.4: the arena of generations and things.
func TestOf(t *testing.T) {
	gens := make([]int, api.MaxUnits)
	gens[0], gens[2], gens[127] = 3, arena.Last, arena.Last+1
	things := map[int]string{0: "a", 1: "b", 2: "c"}
	a, ok := arena.Of(gens, things)
	if !ok || !slices.Equal(a.Ids(), []uint16{3 * 128, 1, arena.Last*128 + 2}) {
		t.Fatalf("%v, %v", a.Ids(), ok)
	}
	for i := range gens {
		if _, there := things[i]; a.Generation(i) != gens[i] || a.Free(i) == there {
			t.Errorf("the slot %d", i)
		}
	}
	if x, ok := a.Get(arena.Last*128 + 2); x != "c" || !ok {
		t.Errorf("%q, %v", x, ok)
	}
	gens[0], things[0] = 9, "z"
	if x, ok := a.Get(3 * 128); x != "a" || !ok {
		t.Error("what was handed in is kept")
	}
	with := func(slot, generation int) []int {
		g := make([]int, api.MaxUnits)
		g[slot] = generation
		return g
	}
	for name, bad := range map[string]func() (box, bool){
		"none":          func() (box, bool) { return arena.Of[string](nil, nil) },
		"127":           func() (box, bool) { return arena.Of[string](make([]int, 127), nil) },
		"129":           func() (box, bool) { return arena.Of[string](make([]int, 129), nil) },
		"below 0":       func() (box, bool) { return arena.Of[string](with(9, -1), nil) },
		"above":         func() (box, bool) { return arena.Of[string](with(9, arena.Last+2), nil) },
		"far above":     func() (box, bool) { return arena.Of[string](with(9, 1<<16), nil) },
		"no slot":       func() (box, bool) { return arena.Of(with(0, 0), map[int]string{128: "x"}) },
		"below a slot":  func() (box, bool) { return arena.Of(with(0, 0), map[int]string{1: "x", -1: "x"}) },
		"behind Last":   func() (box, bool) { return arena.Of(with(9, arena.Last+1), map[int]string{9: "x"}) },
		"thing of none": func() (box, bool) { return arena.Of(nil, map[int]string{9: "x"}) },
	} {
		if a, ok := bad(); ok || a != (box{}) {
			t.Errorf("%s: there is an arena", name)
		}
	}
}

// Arenas are ==, if they have the same generations, free slots and things, whatever was there before.
func TestCompared(t *testing.T) {
	var a, b box
	a, one := add(t, a, "first")
	a = a.Drop(one)
	b, one = add(t, b, "other")
	b = b.Drop(one)
	if a != b || a == (box{}) {
		t.Error("what was dropped is still compared")
	}
	a, _ = add(t, a, "x")
	b, _ = add(t, b, "y")
	if a == b || a != b.Set(128, "x") {
		t.Error("things are not compared")
	}
	gens := make([]int, api.MaxUnits)
	gens[0] = 1
	if c, _ := arena.Of(gens, map[int]string{0: "x"}); c != a {
		t.Error("an arena of its parts is another one")
	}
}

// P8.5: no id is given twice; what was added is there till it is dropped.
func TestNeverTwice(t *testing.T) {
	rnd := rand.New(rand.NewSource(1))
	var a arena.Arena[int]
	there := map[uint16]int{}
	given := map[uint16]bool{}
	for i := range 20000 {
		if rnd.Intn(2) == 0 {
			for id := range there {
				delete(there, id)
				a = a.Drop(id)
				break
			}
		} else if b, id, ok := a.Add(i); ok {
			if given[id] {
				t.Fatalf("the id %d is given twice", id)
			}
			given[id], there[id], a = true, i, b
		}
		if i%100 != 0 {
			continue
		}
		if len(a.Ids()) != len(there) {
			t.Fatalf("%d are there, not %d", len(a.Ids()), len(there))
		}
		for id, x := range there {
			if got, ok := a.Get(id); !ok || got != x {
				t.Fatalf("the id %d: %d, %v, want %d", id, got, ok, x)
			}
		}
	}
}
