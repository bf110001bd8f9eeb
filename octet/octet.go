// Package octet is numbers as bytes: see DOC.md, chapter 1.
package octet

import "slices"

const (
	maxNum   = 1 << 62
	more     = 0x80 // beside the seven digits of a byte behind which another one follows
	maxBytes = 9    // of a number up to maxNum
)

// Writer is bytes that are laid one behind the other.
type Writer struct{ row []byte }

// Nums lays numbers from 0 on.
func (w *Writer) Nums(v ...int) {
	if w == nil {
		return
	}
	for _, n := range v {
		w.row = appendNum(w.row, n)
	}
}

// Bytes lays rows of bytes, each with its length.
func (w *Writer) Bytes(p ...[]byte) {
	if w == nil {
		return
	}
	for _, b := range p {
		w.row = append(appendNum(w.row, len(b)), b...)
	}
}

// Raw lays bytes as they are.
func (w *Writer) Raw(p ...byte) {
	if w == nil {
		return
	}
	w.row = append(w.row, p...)
}

// Out is what was laid.
func (w *Writer) Out() []byte {
	if w == nil {
		return nil
	}
	return slices.Clone(w.row)
}

func appendNum(row []byte, n int) []byte {
	n = min(max(n, 0), maxNum)
	for n >= more {
		row = append(row, byte(n)|more)
		n >>= 7
	}
	return append(row, byte(n))
}

// Reader is bytes that are taken one by one; the first error stays.
type Reader struct {
	row []byte
	bad bool
}

// NewReader takes from bytes.
func NewReader(p []byte) *Reader { return &Reader{row: slices.Clone(p)} }

// Num takes a number.
func (r *Reader) Num() int {
	if r == nil {
		return 0
	}
	n := 0
	for i, b := range r.row[:min(len(r.row), maxBytes)] {
		n |= int(b&^more) << (7 * i)
		if b&more != 0 {
			continue
		}
		if i > 0 && b == 0 || n > maxNum {
			break
		}
		r.row = r.row[i+1:]
		return n
	}
	r.Bad()
	return 0
}

// Nums takes numbers into places.
func (r *Reader) Nums(to ...*int) {
	for _, p := range to {
		n := r.Num()
		if p != nil {
			*p = n
		}
	}
}

// Bytes takes a row of bytes.
func (r *Reader) Bytes() []byte { return r.Raw(r.Num()) }

// Raw takes so many bytes.
func (r *Reader) Raw(n int) []byte {
	if r == nil {
		return nil
	}
	if n < 0 || n > len(r.row) {
		r.Bad()
		return nil
	}
	p := slices.Clone(r.row[:n])
	r.row = r.row[n:]
	return p
}

// Left is how many bytes are left.
func (r *Reader) Left() int {
	if r == nil {
		return 0
	}
	return len(r.row)
}

// Bad makes it err, if it does not yet.
func (r *Reader) Bad() {
	if r == nil {
		return
	}
	r.row, r.bad = nil, true
}

// Good tells whether nothing erred.
func (r *Reader) Good() bool { return r != nil && !r.bad }

// Whole tells whether nothing erred, and nothing is left.
func (r *Reader) Whole() bool { return r.Good() && len(r.row) == 0 }

// Join is rows of bytes, one behind the other.
func Join(p ...[]byte) []byte { return slices.Concat(p...) }

// What one byte makes of a check sum is what its lower four digits make of it, by xor with what its
// higher four do: two tables of sixteen serve as one of 256.
var (
	lowSums = [16]uint32{
		0x00000000, 0x77073096, 0xee0e612c, 0x990951ba, 0x076dc419, 0x706af48f, 0xe963a535, 0x9e6495a3,
		0x0edb8832, 0x79dcb8a4, 0xe0d5e91e, 0x97d2d988, 0x09b64c2b, 0x7eb17cbd, 0xe7b82d07, 0x90bf1d91,
	}
	highSums = [16]uint32{
		0x00000000, 0x1db71064, 0x3b6e20c8, 0x26d930ac, 0x76dc4190, 0x6b6b51f4, 0x4db26158, 0x5005713c,
		0xedb88320, 0xf00f9344, 0xd6d6a3e8, 0xcb61b38c, 0x9b64c2b0, 0x86d3d2d4, 0xa00ae278, 0xbdbdf21c,
	}
)

// Sum is the check sum of rows of bytes, one behind the other.
func Sum(p ...[]byte) uint32 {
	sum := ^uint32(0)
	for _, row := range p {
		for _, b := range row {
			at := byte(sum) ^ b
			sum = sum>>8 ^ lowSums[at&15] ^ highSums[at>>4]
		}
	}
	return ^sum
}
