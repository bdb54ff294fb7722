// Package octet is layer 1: see shared/doc/01-octet.md.
package octet

import "bellwether/api"

// The widest number, and the most bytes of a piece by the width of its length.
const (
	maxWide  = 8
	maxShort = 255
	maxLong  = 1<<31 - 1
)

// Lay: bytes with a number of a width behind them. (P1.1)
func Lay(b []byte, x uint64, wide int) []byte {
	if wide < 0 || wide > maxWide {
		wide = 0
	}
	return layNumber(room(b, wide), x, wide)
}

// Tell: the number that bytes are. (P1.1)
func Tell(b []byte) (uint64, bool) {
	if len(b) > maxWide {
		return 0, false
	}
	var x uint64
	for _, o := range b {
		x = x<<8 | uint64(o)
	}
	return x, true
}

// Signed: a number of a width, as one of 64 bits. (P1.2)
func Signed(x uint64, wide int) uint64 {
	if wide < 1 || wide >= maxWide {
		return x
	}
	// A signed number draws its highest bit in again when it is moved down.
	over := uint(8 * (maxWide - wide))
	return uint64(int64(x<<over) >> over)
}

// LayPiece: bytes with a piece behind them that tells its length. (P1.3)
func LayPiece(b, piece []byte, wide int) ([]byte, api.Errno) {
	most, is := longest(wide)
	if !is || len(piece) > most {
		return nil, api.ErrArg
	}
	out := layNumber(room(b, wide+len(piece)), uint64(len(piece)), wide)
	return append(out, piece...), api.OK
}

// Piece: the piece with which bytes begin, and what stands behind it. (P1.3)
func Piece(b []byte, wide int) (piece, rest []byte, e api.Errno) {
	most, is := longest(wide)
	if !is {
		return nil, nil, api.ErrArg
	}
	c := cutter{b: b, wide: wide, most: most}
	return c.cut(c.length)
}

// longest answers how many bytes a piece has at most whose length has a width; false, if none has that one.
func longest(wide int) (int, bool) {
	switch wide {
	case 1:
		return maxShort, true
	case 4:
		return maxLong, true
	}
	return 0, false
}

// room answers a copy of bytes that n more can be laid behind without moving it again.
func room(b []byte, n int) []byte {
	return append(make([]byte, 0, len(b)+n), b...)
}

// layNumber lays a number behind bytes that are this package's own already.
func layNumber(b []byte, x uint64, wide int) []byte {
	for i := wide - 1; i >= 0; i-- {
		b = append(b, byte(x>>uint(8*i)))
	}
	return b
}

// cutter parts bytes into the piece with which they begin and the rest.
type cutter struct {
	b    []byte
	wide int
	most int
}

// length tells how long the piece is; false, if it is not all there.
func (c cutter) length() (int, bool) {
	if len(c.b) < c.wide {
		return 0, false
	}
	n, _ := Tell(c.b[:c.wide])
	// Held against both as it is: as an int it might not be what was told.
	if n > uint64(c.most) || n > uint64(len(c.b)-c.wide) {
		return 0, false
	}
	return int(n), true
}

// cut answers the piece whose length is told, and the rest, each in memory of its own.
func (c cutter) cut(tell func() (int, bool)) (piece, rest []byte, e api.Errno) {
	n, is := tell()
	if !is {
		return nil, nil, api.ErrShort
	}
	end := c.wide + n
	return room(c.b[c.wide:end], 0), room(c.b[end:], 0), api.OK
}
