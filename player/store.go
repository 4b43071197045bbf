package player

import (
	"slices"

	"rematch/api"
)

// store has frames by their ticks, and the order in which these were got, the one that was got longest ago first.
type store struct {
	frames map[int][]byte
	got    []int
}

func empty() store {
	return store{frames: map[int][]byte{}}
}

// keep lets a frame be the one that was got last, of at most so many.
func (s *store) keep(tick int, frame []byte, room int) {
	if i := slices.Index(s.got, tick); i >= 0 {
		s.got = slices.Delete(s.got, i, i+1)
	}
	s.got = append(s.got, tick)
	s.frames[tick] = frame
	for len(s.got) > room {
		delete(s.frames, s.got[0])
		s.got = slices.Delete(s.got, 0, 1)
	}
}

// latest is the latest tick from one to another one whose frame there is.
func (s *store) latest(from, to int) (int, bool) {
	for tick := to; tick >= from; tick-- {
		if _, ok := s.frames[tick]; ok {
			return tick, true
		}
	}
	return 0, false
}

// cost is what the last call that got a frame decoded.
type cost struct {
	decodedKeys, decodedDeltas int
}

// get is the frame of the cursor's tick: out of the store, or decoded from the nearest frame ahead of it that is there, or from its key's.
func (p *Player) get() ([]byte, api.Errno) {
	p.cost = cost{}
	key := p.cursor - p.cursor%p.keys
	err := api.OK
	var frame []byte
	at, ok := p.latest(key, p.cursor)
	if ok {
		frame = p.frames[at]
	} else {
		at = key
		p.decodedKeys++
		frame, err = p.file.Key(key)
	}
	for at < p.cursor && err == api.OK {
		at++
		p.decodedDeltas++
		frame, err = p.file.Delta(at, frame)
	}
	if err != api.OK {
		return nil, err
	}
	p.keep(p.cursor, frame, p.room)
	return frame, api.OK
}
