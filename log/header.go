package log

import (
	"rematch/api"
	"rematch/grid"
	"rematch/wire"
)

// May tells whether a header may be.
func May(h api.Header) bool {
	m, err := grid.New(h.W, h.H, h.Tiles)
	if err != api.OK || h.Players < 1 || h.Players > api.MaxPlayers || len(h.Starts) > api.MaxUnits {
		return false
	}
	taken := map[int]struct{}{}
	for _, u := range h.Starts {
		_, twice := taken[u.Tile]
		if int(u.Owner) >= h.Players || u.Kind < api.Base || u.Kind > api.Barracks || !m.Walk(u.Tile) || twice {
			return false
		}
		taken[u.Tile] = struct{}{}
	}
	return true
}

// Header is a header's bytes.
func Header(h api.Header) ([]byte, api.Errno) {
	if !May(h) {
		return nil, api.ErrArg
	}
	var b []byte
	for _, n := range []int{h.W, h.H, h.Players} {
		b = append(b, wire.Put(nil, uint64(n))...)
	}
	b = append(b, wire.PutFixed(nil, h.Seed)...)
	b = append(b, wire.PutText(nil, h.Tiles)...)
	b = append(b, wire.Put(nil, uint64(len(h.Starts)))...)
	for _, u := range h.Starts {
		for _, n := range []int{int(u.Owner), int(u.Kind), u.Tile} {
			b = append(b, wire.Put(nil, uint64(n))...)
		}
	}
	return b, api.OK
}

// TakeHeader is the header of bytes.
func TakeHeader(b []byte) (api.Header, api.Errno) {
	r := wire.Of(b)
	var h api.Header
	h.W = r.Int()
	h.H = r.Int()
	h.Players = r.Int()
	h.Seed = r.Fixed()
	h.Tiles = r.Text(api.MaxSide * api.MaxSide)
	fits := true
	left := r.Num()
starts:
	for ; left > 0; left-- {
		owner, kind, tile := r.Num(), r.Num(), r.Int()
		if r.Err() != api.OK {
			break starts
		}
		// What may not be is told only behind what the reader refuses: till then it is passed over.
		if owner > 255 || kind > 255 || len(h.Starts) == api.MaxUnits {
			fits = false
			continue starts
		}
		h.Starts = append(h.Starts, api.Start{Owner: uint8(owner), Kind: uint8(kind), Tile: tile})
	}
	if err := r.End(); err != api.OK {
		return api.Header{}, err
	}
	if !fits || !May(h) {
		return api.Header{}, api.ErrForm
	}
	return h, api.OK
}
