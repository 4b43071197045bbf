package rules_test

import (
	"testing"

	"rematch/api"
	"rematch/rules"
)

// P9.1: the rules, and which kinds are buildings.
func TestOf(t *testing.T) {
	want := map[uint8]rules.Rule{
		api.Base:     {60, 0, 0, 0, 0, 100, 30, 5, 0, 0, false},
		api.Worker:   {10, 3, 1, 1, 4, 10, 6, 3, 0, api.Base, false},
		api.Soldier:  {20, 2, 1, 4, 4, 20, 8, 4, 0, api.Barracks, false},
		api.Archer:   {12, 2, 4, 3, 6, 25, 10, 5, 1, api.Barracks, true},
		api.Barracks: {40, 0, 0, 0, 0, 40, 12, 3, 0, api.Worker, false},
	}
	for i := range 256 {
		kind := uint8(i)
		r, ok := rules.Of(kind)
		w, there := want[kind]
		if r != w || ok != there {
			t.Errorf("%d: %+v, %v", kind, r, ok)
		}
		if there && r.Building() != (kind == api.Base || kind == api.Barracks) {
			t.Errorf("%d: whether it is a building", kind)
		}
	}
	if rules.First != 50 || rules.Amount != 100 || rules.Carry != 5 || rules.Dig != 4 || rules.Study != 30 || rules.Studies != 20 {
		t.Error("the other numbers")
	}
}

// P9.2: who makes what, of all that there is, and of what is no kind.
func TestMakes(t *testing.T) {
	makes := map[[2]uint8]bool{{api.Base, api.Worker}: true, {api.Worker, api.Barracks}: true, {api.Barracks, api.Soldier}: true, {api.Barracks, api.Archer}: true}
	for i := range 256 * 256 {
		maker, kind := uint8(i/256), uint8(i%256)
		if got := rules.Makes(maker, kind); got != makes[[2]uint8{maker, kind}] {
			t.Errorf("Makes(%d, %d): %v", maker, kind, got)
		}
	}
}

// P9.3: each kind but Base has one maker; who strikes has a range and a cool; other numbers are above 0.
func TestFollows(t *testing.T) {
	for kind := api.Base; kind <= api.Barracks; kind++ {
		r, _ := rules.Of(kind)
		makers := 0
		for i := range 256 {
			if rules.Makes(uint8(i), kind) {
				makers++
			}
		}
		if want := 1; kind == api.Base && makers != 0 || kind != api.Base && makers != want {
			t.Errorf("%d has %d makers", kind, makers)
		}
		if r.Damage > 0 && (r.Range <= 0 || r.Cool <= 0) {
			t.Errorf("%d strikes without range or cool", kind)
		}
		if r.HP <= 0 || r.Sight <= 0 || r.Cost <= 0 || r.Time <= 0 {
			t.Errorf("%d: a number is not above 0", kind)
		}
	}
}
