// Package bits is layer 1, bits, one by one: see shared/doc/01-bits.md.
package bits

import (
	mathbits "math/bits"
	"slices"

	"casket/api"
)

// maxWidth is how many bits the greatest number has.
const maxWidth = 64

// Writer holds bits that are written.
type Writer struct {
	b []byte // behind the last bit all is 0, so that Bytes needs no filling
	n int
}

// Put writes a number's lowest bits.
func (w *Writer) Put(v uint64, width int) api.Errno {
	if w == nil || !isWidth(width) || Width(v) > width {
		return api.ErrArg
	}
	for i := range width {
		w.putBit(byte(v >> (width - 1 - i) & 1))
	}
	return api.OK
}

func (w *Writer) putBit(bit byte) {
	if w.n%8 == 0 {
		w.b = append(w.b, 0)
	}
	w.b[w.n/8] |= bit << (7 - w.n%8)
	w.n++
}

// Len is how many bits there are.
func (w *Writer) Len() int {
	if w == nil {
		return 0
	}
	return w.n
}

// Bytes are all bits.
func (w *Writer) Bytes() []byte {
	if w == nil {
		return nil
	}
	return slices.Clone(w.b)
}

// Reader reads bits.
type Reader struct {
	b    []byte
	next int // the place of the bit that is read next
}

// NewReader is one that has read nothing.
func NewReader(b []byte) *Reader {
	// The bytes stay their owner's: what is done to them later must not turn what is read.
	return &Reader{b: slices.Clone(b)}
}

// Get reads bits as a number.
func (r *Reader) Get(width int) (uint64, api.Errno) {
	if r == nil || !isWidth(width) {
		return 0, api.ErrArg
	}
	if r.Left() < width {
		return 0, api.ErrShort
	}
	v := uint64(0)
	for i := range width {
		v = v<<1 | uint64(r.bitAt(r.next+i))
	}
	r.next += width
	return v, api.OK
}

// Left is how many bits are left.
func (r *Reader) Left() int {
	if r == nil {
		return 0
	}
	return 8*len(r.b) - r.next
}

// End: is nothing left but what fills a byte?
func (r *Reader) End() api.Errno {
	if r == nil {
		return api.ErrArg
	}
	if r.Left() >= 8 {
		return api.ErrForm
	}
	for i := range r.Left() {
		if r.bitAt(r.next+i) != 0 {
			return api.ErrForm
		}
	}
	return api.OK
}

func (r *Reader) bitAt(place int) byte {
	return r.b[place/8] >> (7 - place%8) & 1
}

// Width is how many bits a number needs.
func Width(v uint64) int { return mathbits.Len64(v) }

func isWidth(width int) bool { return 0 <= width && width <= maxWidth }
