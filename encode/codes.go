package encode

import (
	"bellwether/api"
	"bellwether/octet"
)

// few: the greatest number, length, size or count that one byte tells.
const few = 255

// choice: a code, and which values of its kind it can tell.
type choice struct {
	code byte
	can  func(p plan) bool
}

// codes: the choices of each kind, in the order in which they are tried. The last one can tell all.
type codes map[uint8][]choice

// allCodes answers the codes of all kinds.
func allCodes() codes {
	all := func(plan) bool { return true }
	empty := func(p plan) bool { return p.count() == 0 }
	short := func(p plan) bool { return len(p.is.Text) <= few }
	small := func(p plan) bool { return p.size(1) <= few && p.count() <= few }
	near := func(p plan) bool { return p.is.Num == octet.Signed(p.is.Num, 1) }
	just := func(n uint64) func(plan) bool { return func(p plan) bool { return p.is.Num == n } }
	upTo := func(n uint64) func(plan) bool { return func(p plan) bool { return p.is.Num <= n } }
	only := func(code byte) []choice { return []choice{{code, all}} }
	return codes{
		api.ValNull:   only(0x40),
		api.ValBool:   {{0x41, just(1)}, {0x42, just(0)}, {0x56, all}},
		api.ValUbyte:  only(0x50),
		api.ValUshort: only(0x60),
		api.ValUint:   {{0x43, just(0)}, {0x52, upTo(few)}, {0x70, all}},
		api.ValUlong:  {{0x44, just(0)}, {0x53, upTo(few)}, {0x80, all}},
		api.ValByte:   only(0x51),
		api.ValShort:  only(0x61),
		api.ValInt:    {{0x54, near}, {0x71, all}},
		api.ValLong:   {{0x55, near}, {0x81, all}},
		api.ValFloat:  only(0x72),
		api.ValDouble: only(0x82),
		api.ValChar:   only(0x73),
		api.ValTime:   only(0x83),
		api.ValUuid:   only(0x98),
		api.ValDec32:  only(0x74),
		api.ValDec64:  only(0x84),
		api.ValDec128: only(0x94),
		api.ValBinary: {{0xa0, short}, {0xb0, all}},
		api.ValString: {{0xa1, short}, {0xb1, all}},
		api.ValSymbol: {{0xa3, short}, {0xb3, all}},
		api.ValList:   {{0x45, empty}, {0xc0, small}, {0xd0, all}},
		api.ValMap:    {{0xc1, small}, {0xd1, all}},
		api.ValArray:  {{0xe0, small}, {0xf0, all}},
	}
}

// first answers the first code that can tell all of some values of one kind (there is one value at least).
func (c codes) first(l []plan) byte {
	for _, of := range c[l[0].is.Kind] {
		if canAll(of.can, l) {
			return of.code
		}
	}
	return 0
}

// canAll: can all of some values be told?
func canAll(can func(p plan) bool, l []plan) bool {
	for _, p := range l {
		if !can(p) {
			return false
		}
	}
	return true
}

// width answers how many bytes the number has with which a code's data begin (a length, a size, a count, or what the data are).
func width(code byte) int {
	switch digit := code >> 4; {
	case digit == 4:
		return 0
	case digit < 0xa:
		return 1 << (digit - 5)
	case digit%2 == 0:
		return 1
	}
	return 4
}
