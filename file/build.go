package file

import (
	"rematch/api"
	"rematch/chunk"
	"rematch/crc"
	"rematch/delta"
	"rematch/log"
	"rematch/track"
	"rematch/wire"
)

// builder is a file that is put together, chunk by chunk.
type builder struct {
	bytes  []byte
	places []int
}

// put puts a chunk behind what is there.
func (b *builder) put(kind uint8, data []byte) {
	b.bytes = append(b.bytes, chunk.Put(nil, kind, data)...)
}

// indexOf tells where ticks' chunks begin, each behind the one ahead.
func indexOf(places []int) []byte {
	var out []byte
	last := 0
	for _, at := range places {
		out = append(out, wire.Put(nil, uint64(at-last))...)
		last = at
	}
	return out
}

// finish puts the foot behind the Index chunk, that begins at a place.
func (b *builder) finish(indexAt int) ([]byte, api.Errno) {
	if len(b.bytes)+footSize > api.MaxFile {
		return nil, api.ErrLimit
	}
	b.bytes = append(b.bytes, wire.PutFixed(nil, uint32(indexAt))...)
	return append(b.bytes, wire.PutFixed(nil, crc.Sum(b.bytes))...), api.OK
}

// Build is a recording's file.
func Build(p Parts) ([]byte, api.Errno) {
	head, err := log.Header(p.Header)
	if err != api.OK {
		return nil, api.ErrArg
	}
	entries, err := log.Put(p.Log, p.N)
	if err != api.OK {
		return nil, api.ErrArg
	}
	looks, err := p.Track.Bytes(p.N)
	if err != api.OK || p.K < 1 || p.K > MaxKey || !mayFrames(p) {
		return nil, api.ErrArg
	}
	b := &builder{bytes: []byte(magic)}
	b.put(Head, head)
	b.put(Span, append(wire.Put(nil, uint64(p.N)), wire.Put(nil, uint64(p.K))...))
	b.put(Log, entries)
	b.put(Track, looks)
	var was []byte
	for tick, frame := range p.Frames {
		b.places = append(b.places, len(b.bytes))
		if kind := kindOf(tick, p.K); kind == Key {
			b.put(Key, frame)
		} else {
			b.put(Delta, delta.Diff(was, frame))
		}
		was = frame
		if len(b.bytes) > api.MaxFile {
			return nil, api.ErrLimit
		}
	}
	indexAt := len(b.bytes)
	b.put(Index, indexOf(b.places))
	return b.finish(indexAt)
}

// mayFrames tells whether there is a frame of each tick, and none is too great.
func mayFrames(p Parts) bool {
	for _, frame := range p.Frames {
		if len(frame) > MaxFrame {
			return false
		}
	}
	return len(p.Frames) == p.N+1
}

// With is the bytes of the file with another track.
func (f *File) With(t track.Track) ([]byte, api.Errno) {
	if f == nil {
		return nil, api.ErrNil
	}
	looks, err := t.Bytes(f.parts.N)
	if err != api.OK {
		return nil, api.ErrArg
	}
	b := &builder{}
	b.bytes = append(b.bytes, f.bytes[:f.trackAt]...)
	b.put(Track, looks)
	moved := len(b.bytes) - f.trackEnd
	b.bytes = append(b.bytes, f.bytes[f.trackEnd:f.indexAt]...)
	indexAt := len(b.bytes)
	if moved == 0 {
		b.bytes = append(b.bytes, f.bytes[f.indexAt:len(f.bytes)-footSize]...)
		return b.finish(indexAt)
	}
	for _, at := range f.places {
		b.places = append(b.places, at+moved)
	}
	b.put(Index, indexOf(b.places))
	return b.finish(indexAt)
}
