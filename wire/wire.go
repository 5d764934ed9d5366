// Package wire encodes numbers and strings as bytes and decodes them: see doc/01-wire.md.
package wire

import (
	"bytes"

	"confluence/api"
)

// Writer collects what it is given as bytes.
type Writer struct {
	b []byte
}

// NewWriter returns a Writer without bytes.
func NewWriter() *Writer { return &Writer{} }

// Byte appends the lowest 8 bits of n.
func (w *Writer) Byte(n int) { w.number(uint64(n), 1) }

// Short appends the lowest 16 bits of n.
func (w *Writer) Short(n int) { w.number(uint64(n), 2) }

// Long appends the 64 bits of n.
func (w *Writer) Long(n int64) { w.number(uint64(n), 8) }

// Text appends the length of s as a Short and the bytes of s: of a length beyond 65535, only the lowest 16 bits are told.
func (w *Writer) Text(s string) {
	w.Short(len(s))
	w.b = append(w.b, s...)
}

// Done returns a copy of the bytes, since the Writer may go on.
func (w *Writer) Done() []byte { return bytes.Clone(w.b) }

func (w *Writer) number(n uint64, size int) {
	for range size {
		w.b = append(w.b, byte(n))
		n >>= 8
	}
}

// Reader reads what a Writer wrote, up to the first error, which remains.
type Reader struct {
	b   []byte
	why api.Errno
	at  int // of the next byte; after an error, of the error
}

// NewReader returns a Reader of a copy of b, since the caller may change b.
func NewReader(b []byte) *Reader { return &Reader{b: bytes.Clone(b)} }

// Byte reads 8 bits.
func (r *Reader) Byte() int { return int(r.number(1)) }

// Short reads 16 bits.
func (r *Reader) Short() int { return int(r.number(2)) }

// Long reads 64 bits.
func (r *Reader) Long() int64 { return int64(r.number(8)) }

// Text reads a Short and as many bytes, of which there may be most.
func (r *Reader) Text(most int) string {
	start := r.at
	n := r.Short()
	if n > max(most, 0) {
		r.stop(api.ErrLong, start)
	}
	return string(r.take(n))
}

// Fail stops the reading at the present offset, for a reason that only the caller can see.
func (r *Reader) Fail(why api.Errno) { r.stop(why, r.at) }

// Left returns how many bytes can still be read.
func (r *Reader) Left() int {
	if r.why != api.OK {
		return 0
	}
	return len(r.b) - r.at
}

// End returns the first error and its offset. Bytes that are left are told as an error, but stop nothing.
func (r *Reader) End() (api.Errno, int) {
	if r.why != api.OK {
		return r.why, r.at
	}
	if r.Left() > 0 {
		return api.ErrTail, r.at
	}
	return api.OK, 0
}

// number reads from the highest byte, which is the last, so that each one below it only shifts.
func (r *Reader) number(size int) uint64 {
	var n uint64
	b := r.take(size)
next:
	if len(b) == 0 {
		return n
	}
	n = n<<8 | uint64(b[len(b)-1])
	b = b[:len(b)-1]
	goto next
}

// take passes over n bytes and returns them, or none if one is missing: a read takes all that it needs or nothing.
// After an error, Left is 0, so that nothing is taken behind it.
func (r *Reader) take(n int) []byte {
	start := r.at
	if n > r.Left() {
		r.stop(api.ErrEnd, len(r.b))
		return nil
	}
	r.at += n
	return r.b[start:r.at]
}

// stop keeps the first error alone: what comes behind it was never read.
func (r *Reader) stop(why api.Errno, at int) {
	if r.why == api.OK {
		r.why, r.at = why, at
	}
}
