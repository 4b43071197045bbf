package file

import (
	"bytes"
	"slices"

	"rematch/api"
	"rematch/chunk"
	"rematch/crc"
	"rematch/log"
	"rematch/track"
	"rematch/wire"
)

// fault is what is thrown where a file is refused.
type fault struct {
	err api.Errno
}

// must throws an error, unless it is as it must be.
func must(is bool, err api.Errno) {
	if !is {
		panic(fault{err})
	}
}

// Open is the file of bytes.
func Open(b []byte) (f *File, err api.Errno) {
	defer func() {
		switch x := recover().(type) {
		case nil:
		case fault:
			f, err = nil, x.err
		default:
			panic(x)
		}
	}()
	must(len(b) <= api.MaxFile, api.ErrLimit)
	must(len(b) >= least, api.ErrShort)
	o := &opener{f: &File{bytes: slices.Clone(b)}}
	for _, read := range o.steps() {
		read()
	}
	return o.f, api.OK
}

// opener is a file that is read, and the place up to which it was.
type opener struct {
	f  *File
	at int
}

// steps are what must stand in a file, one behind the other.
func (o *opener) steps() []func() {
	f := o.f
	var err api.Errno
	return []func(){
		o.around,
		func() {
			f.parts.Header, err = log.TakeHeader(o.take(Head))
			must(err == api.OK, err)
		},
		func() {
			r := wire.Of(o.take(Span))
			n, k := r.Int(), r.Int()
			must(r.End() == api.OK, r.End())
			must(n <= api.MaxTicks && k >= 1 && k <= MaxKey, api.ErrForm)
			f.parts.N, f.parts.K = n, k
		},
		func() {
			f.parts.Log, err = log.Take(o.take(Log), f.parts.N)
			must(err == api.OK, err)
		},
		func() {
			f.trackAt = o.at
			f.parts.Track, err = track.Take(o.take(Track), f.parts.N)
			must(err == api.OK, err)
			f.trackEnd = o.at
		},
		func() {
			for tick := range f.parts.N + 1 {
				f.places = append(f.places, o.at)
				o.skip(kindOf(tick, f.parts.K))
			}
		},
		func() {
			f.indexAt = o.at
			must(bytes.Equal(o.take(Index), indexOf(f.places)), api.ErrForm)
		},
		o.foot,
	}
}

// around checks what stands around all chunks.
func (o *opener) around() {
	b := o.f.bytes
	end := len(b) - sumSize
	must(wire.Of(b[end:]).Fixed() == crc.Sum(b[:end]), api.ErrSum)
	must(string(b[:len(magic)]) == magic, api.ErrForm)
	o.at = len(magic)
}

// take is the next chunk's data, that must be of a kind.
func (o *opener) take(kind uint8) []byte {
	got, data, end, err := chunk.Take(o.f.bytes, o.at, MaxData)
	must(err == api.OK, err)
	must(got == kind, api.ErrForm)
	o.at = end
	return data
}

// skip passes the next chunk, that must be of a kind, without unpacking it.
func (o *opener) skip(kind uint8) {
	got, end, err := chunk.Skip(o.f.bytes, o.at)
	must(err == api.OK, err)
	must(got == kind, api.ErrForm)
	o.at = end
}

// foot checks that the foot is what follows, and tells where the Index chunk is.
func (o *opener) foot() {
	b := o.f.bytes
	must(o.at == len(b)-footSize, api.ErrForm)
	must(int(wire.Of(b[o.at:]).Fixed()) == o.f.indexAt, api.ErrForm)
}
