package value

import (
	"bellwether/api"
	"bellwether/utf"
)

// Right: may a value be? (P4.2)
func Right(v api.Value) bool {
	var w walk
	return w.right(v, 1)
}

// walk counts the parts that Right has seen. It ends at the first one that is too many or too deep, so that a value of far more than may be costs no more than one that may be.
type walk struct {
	items int
}

// right: may a value be that stands so deep?
func (w *walk) right(v api.Value, depth int) bool {
	w.items++
	if depth > api.MaxDepth || w.items > api.MaxItems || !rightAlone(v) {
		return false
	}
	for _, kid := range v.Kids {
		if !w.right(kid, depth+1) {
			return false
		}
	}
	return rightKids(v)
}

// rightAlone: has a value what its kind has, and nothing else? What its kids are is not asked here.
func rightAlone(v api.Value) bool {
	switch k := v.Kind; {
	case k == api.ValNull:
		return v.Num == 0 && v.Text == "" && len(v.Kids) == 0
	case k >= api.ValBool && k <= api.ValTime:
		return v.Text == "" && len(v.Kids) == 0 && rightNumber(k, v.Num)
	case k >= api.ValUuid && k <= api.ValSymbol:
		return v.Num == 0 && len(v.Kids) == 0 && rightText(k, v.Text)
	case k >= api.ValList && k <= api.ValDesc:
		return v.Num == 0 && v.Text == ""
	}
	return false
}

// rightNumber: is a number one of a kind of numbers?
func rightNumber(kind uint8, n uint64) bool {
	switch kind {
	case api.ValBool:
		return n <= 1
	case api.ValUbyte:
		return n < 1<<8
	case api.ValUshort:
		return n < 1<<16
	case api.ValUint, api.ValFloat:
		return n < 1<<32
	case api.ValByte:
		return n == uint64(int8(n))
	case api.ValShort:
		return n == uint64(int16(n))
	case api.ValInt:
		return n == uint64(int32(n))
	case api.ValChar:
		return utf.Char(n)
	}
	return true // ValUlong, ValLong, ValDouble, ValTime: all 64 bits
}

// rightText: is a text one of a kind of texts?
func rightText(kind uint8, s string) bool {
	switch kind {
	case api.ValUuid, api.ValDec128:
		return len(s) == 16
	case api.ValDec32:
		return len(s) == 4
	case api.ValDec64:
		return len(s) == 8
	case api.ValString:
		return utf.Right([]byte(s))
	case api.ValSymbol:
		return utf.Ascii([]byte(s))
	}
	return true // ValBinary: any bytes
}

// rightKids: do a value's kids, each of which may be, stand together as its kind asks?
func rightKids(v api.Value) bool {
	switch v.Kind {
	case api.ValMap:
		return len(v.Kids)%2 == 0 && !keyTwice(v)
	case api.ValArray:
		return allAlike(v.Kids)
	case api.ValDesc:
		return len(v.Kids) == 2 && isName(v.Kids[0])
	}
	return true
}

// keyTwice: are two of a map's keys the same?
func keyTwice(m api.Value) bool {
	var seen []api.Value
	for key := range keys(m) {
		for _, other := range seen {
			if Same(key, other) {
				return true
			}
		}
		seen = append(seen, key)
	}
	return false
}

// allAlike: are any two values alike? Those that are alike to one are so to each other.
func allAlike(l []api.Value) bool {
	for _, v := range l {
		if !alike(l[0], v) {
			return false
		}
	}
	return true
}

// alike: are two values that may be of one kind and, while they are called something, called the same?
func alike(a, b api.Value) bool {
	for a.Kind == api.ValDesc && b.Kind == api.ValDesc {
		if !Same(a.Kids[0], b.Kids[0]) {
			return false
		}
		a, b = a.Kids[1], b.Kids[1]
	}
	return a.Kind == b.Kind
}

// isName: can a value be what another one is called?
func isName(v api.Value) bool {
	return v.Kind == api.ValUlong || v.Kind == api.ValSymbol
}
