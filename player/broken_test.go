package player_test

import (
	"hash/crc32"
	"testing"

	"rematch/api"
	"rematch/chunk"
	"rematch/delta"
	"rematch/file"
	"rematch/log"
	"rematch/wire"
)

// rewritten is the file of a recording, in which the difference of the tick 6 ends too soon.
func rewritten(t *testing.T, x file.Parts) *file.File {
	t.Helper()
	head, _ := log.Header(x.Header)
	entries, _ := log.Put(x.Log, x.N)
	looks, _ := x.Track.Bytes(x.N)
	b := chunk.Put([]byte("RMCH"), file.Head, head)
	b = chunk.Put(b, file.Span, append(wire.Put(nil, uint64(x.N)), wire.Put(nil, uint64(x.K))...))
	b = chunk.Put(chunk.Put(b, file.Log, entries), file.Track, looks)
	var index []byte
	last := 0
	for tick, frame := range x.Frames {
		index = wire.Put(index, uint64(len(b)-last))
		last = len(b)
		switch {
		case tick == 6:
			b = chunk.Put(b, file.Delta, []byte("\x05\x01"))
		case tick%x.K == 0:
			b = chunk.Put(b, file.Key, frame)
		default:
			b = chunk.Put(b, file.Delta, delta.Diff(x.Frames[tick-1], frame))
		}
	}
	at := len(b)
	b = wire.PutFixed(chunk.Put(b, file.Index, index), uint32(at))
	f, err := file.Open(wire.PutFixed(b, crc32.ChecksumIEEE(b)))
	if err != api.OK {
		t.Fatal(err)
	}
	return f
}
