package decode

import "bellwether/api"

// called stands ahead of what a value is called; justTrue tells true without data.
const (
	called   byte = 0x00
	justTrue byte = 0x41
)

// none: the kind of what is no code.
const none uint8 = 0

// kindOf answers a code's kind.
func kindOf(code byte) uint8 {
	switch code {
	case 0x40:
		return api.ValNull
	case justTrue, 0x42, 0x56:
		return api.ValBool
	case 0x43, 0x52, 0x70:
		return api.ValUint
	case 0x44, 0x53, 0x80:
		return api.ValUlong
	case 0x54, 0x71:
		return api.ValInt
	case 0x55, 0x81:
		return api.ValLong
	case 0xa0, 0xb0:
		return api.ValBinary
	case 0xa1, 0xb1:
		return api.ValString
	case 0xa3, 0xb3:
		return api.ValSymbol
	case 0x45, 0xc0, 0xd0:
		return api.ValList
	case 0xc1, 0xd1:
		return api.ValMap
	case 0xe0, 0xf0:
		return api.ValArray
	}
	return onlyOf(code)
}

// onlyOf answers the kind of a code that is the only one of its kind.
func onlyOf(code byte) uint8 {
	switch code {
	case 0x50:
		return api.ValUbyte
	case 0x60:
		return api.ValUshort
	case 0x51:
		return api.ValByte
	case 0x61:
		return api.ValShort
	case 0x72:
		return api.ValFloat
	case 0x82:
		return api.ValDouble
	case 0x73:
		return api.ValChar
	case 0x83:
		return api.ValTime
	case 0x98:
		return api.ValUuid
	case 0x74:
		return api.ValDec32
	case 0x84:
		return api.ValDec64
	case 0x94:
		return api.ValDec128
	}
	return none
}

// sizeWide answers how many bytes the size has with which a code's data begin; 0, if they have none.
func sizeWide(code byte) uint64 {
	switch code >> 4 {
	case 0xa, 0xc, 0xe:
		return 1
	case 0xb, 0xd, 0xf:
		return 4
	}
	return 0
}

// long answers how many bytes the data of a code have that tell no size.
func long(code byte) uint64 {
	switch code >> 4 {
	case 5:
		return 1
	case 6:
		return 2
	case 7:
		return 4
	case 8:
		return 8
	case 9:
		return 16
	}
	return 0
}
