// Package octet is layer 1: numbers as bytes. See shared/doc/01-octet.md.
package octet

import (
	"cattlegrid/api"
)

// The greatest packed numbers that one, two and four bytes tell.
const (
	maxOne  = 127
	maxTwo  = 16383
	maxFour = 536870911
)

// What is added to the first byte of a packed number of two or four bytes; from markNone on a first byte begins none.
const (
	markTwo  = 128
	markFour = 192
	markNone = 224
)

// Reader reads bytes.
type Reader struct {
	bytes []byte
	at    int
}

// New is a reader of a copy of b, so that who called may change b later on.
func New(b []byte) *Reader {
	return &Reader{bytes: extend(b, 0)}
}

// At is how many bytes were read.
func (r *Reader) At() int {
	if r == nil {
		return 0
	}
	return r.at
}

// Left is how many bytes are left.
func (r *Reader) Left() int {
	if r == nil {
		return 0
	}
	return len(r.bytes) - r.at
}

// Num reads a number of n bytes, the lowest first.
func (r *Reader) Num(n int) (uint64, api.Errno) {
	if r == nil {
		return 0, api.ErrNil
	}
	if !isWidth(n) {
		return 0, api.ErrArg
	}
	if r.Left() < n {
		return 0, api.ErrShort
	}
	x := uint64(0)
	for i := range n {
		x |= uint64(r.bytes[r.at+i]) << (8 * i)
	}
	r.at += n
	return x, api.OK
}

// Packed reads a packed number.
func (r *Reader) Packed() (int, api.Errno) {
	if r == nil {
		return 0, api.ErrNil
	}
	if r.Left() == 0 {
		return 0, api.ErrShort
	}
	size, mark := wanted(r.bytes[r.at])
	if size == 0 {
		return 0, api.ErrForm
	}
	if r.Left() < size {
		return 0, api.ErrShort
	}
	n := int(r.bytes[r.at] - mark)
	for i := range size - 1 {
		n = n<<8 | int(r.bytes[r.at+1+i])
	}
	// One number has one telling: the longer ones are refused.
	if Size(n) != size {
		return 0, api.ErrForm
	}
	r.at += size
	return n, api.OK
}

// Take reads the next n bytes, as a copy.
func (r *Reader) Take(n int) ([]byte, api.Errno) {
	from := r.At()
	if e := r.Skip(n); e != api.OK {
		return nil, e
	}
	return extend(r.bytes[from:from+n], 0), api.OK
}

// Skip goes past the next n bytes.
func (r *Reader) Skip(n int) api.Errno {
	if r == nil {
		return api.ErrNil
	}
	if n < 0 {
		return api.ErrRange
	}
	if r.Left() < n {
		return api.ErrShort
	}
	r.at += n
	return api.OK
}

// Done tells whether all was read.
func (r *Reader) Done() api.Errno {
	if r == nil {
		return api.ErrNil
	}
	if r.Left() > 0 {
		return api.ErrForm
	}
	return api.OK
}

// Put is b and the lowest n bytes of x behind it, the lowest first.
func Put(b []byte, x uint64, n int) ([]byte, api.Errno) {
	if !isWidth(n) {
		return nil, api.ErrArg
	}
	out := extend(b, n)
	for i := range n {
		out[len(b)+i] = byte(x >> (8 * i))
	}
	return out, api.OK
}

// Pack is b and the packed number n behind it.
func Pack(b []byte, n int) ([]byte, api.Errno) {
	size := Size(n)
	if size == 0 {
		return nil, api.ErrRange
	}
	out := extend(b, size)
	for i := range size {
		out[len(b)+i] = byte(n >> (8 * (size - 1 - i)))
	}
	out[len(b)] += markOf(size)
	return out, api.OK
}

// Size is how many bytes Pack puts for n; 0, if it refuses.
func Size(n int) int {
	switch {
	case n < 0 || n > maxFour:
		return 0
	case n <= maxOne:
		return 1
	case n <= maxTwo:
		return 2
	}
	return 4
}

func isWidth(n int) bool {
	return n == 1 || n == 2 || n == 4 || n == 8
}

// markOf is what is added to the first byte of a packed number of so many bytes.
func markOf(size int) byte {
	switch size {
	case 2:
		return markTwo
	case 4:
		return markFour
	}
	return 0
}

// wanted is how many bytes a packed number has that begins with first, and what was added to it; 0, if none begins so.
func wanted(first byte) (int, byte) {
	size := 0
	switch {
	case first < markTwo:
		size = 1
	case first < markFour:
		size = 2
	case first < markNone:
		size = 4
	}
	return size, markOf(size)
}

// extend is a copy of b with room for n bytes behind it: append would write into b's spare room.
func extend(b []byte, n int) []byte {
	out := make([]byte, len(b)+n)
	copy(out, b)
	return out
}
