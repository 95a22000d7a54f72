// Package word tells values, and what a thing is, in single words: see doc/01-word.md.
package word

import (
	"underwood/api"
)

// The two low bits of a word that is a value.
const (
	tagInt  = 0
	tagRef  = 1
	tagNil  = 2
	tagGone = 3

	tagBits = 2
	tagMask = 1<<tagBits - 1
)

// The low bits of a first word, which tell the kind of a thing.
const (
	kindBits = 4
	kindMask = 1<<kindBits - 1
)

// Encode answers the word of a value, and 0; or 0 and a code.
func Encode(v api.Val) (int64, int) {
	if code := valueCode(v); code != 0 {
		return 0, code
	}
	return v.N<<tagBits | tagOf(v.Kind), 0
}

// Decode answers the value that a word is, and 0; or no value and a code.
func Decode(w int64) (api.Val, int) {
	v := api.Val{Kind: kindOf(w & tagMask), N: w >> tagBits}
	if code := valueCode(v); code != 0 {
		return api.Val{}, code
	}
	return v, 0
}

// valueCode is asked both there and back, so that neither way takes what the other refuses.
func valueCode(v api.Val) int {
	switch v.Kind {
	case api.VNil, api.VGone:
		if v.N != 0 {
			return api.ErrBits
		}
	case api.VInt:
		return rangeCode(v.N, -api.MaxInt)
	case api.VRef:
		return rangeCode(v.N, 0)
	default:
		return api.ErrKind
	}
	return 0
}

func rangeCode(n, low int64) int {
	if n < low || n >= api.MaxInt {
		return api.ErrRange
	}
	return 0
}

// tagOf is asked only of kinds that there are.
func tagOf(kind int) int64 {
	switch kind {
	case api.VInt:
		return tagInt
	case api.VRef:
		return tagRef
	case api.VNil:
		return tagNil
	default:
		return tagGone
	}
}

// kindOf is asked only of two bits, each of whose states is a kind.
func kindOf(tag int64) int {
	switch tag {
	case tagInt:
		return api.VInt
	case tagRef:
		return api.VRef
	case tagNil:
		return api.VNil
	default:
		return api.VGone
	}
}

// Ref answers the word that leads to a place from 0 to MaxInt - 1.
// Of any other number it answers 0, as Encode does, since a shifted one could lead to a wrong place.
func Ref(at int) int64 {
	w, _ := Encode(api.Val{Kind: api.VRef, N: int64(at)})
	return w
}

// At answers the place to which a word leads; false: it leads to none.
func At(w int64) (int, bool) {
	v, code := Decode(w)
	if code != 0 || v.Kind != api.VRef {
		return 0, false
	}
	return int(v.N), true
}

// Nil answers the word of VNil.
func Nil() int64 { return tagNil }

// Gone answers the word of VGone.
func Gone() int64 { return tagGone }

// Head answers the first word of a thing, and 0; or 0 and a code.
func Head(kind, fields int) (int64, int) {
	least, most, ok := fieldBounds(kind)
	if !ok {
		return 0, api.ErrKind
	}
	if fields < least || fields > most {
		return 0, api.ErrRange
	}
	return int64(fields)<<kindBits | int64(kind), 0
}

// fieldBounds answers how many fields a kind of things has at least and at most; false: no such kind.
func fieldBounds(kind int) (int, int, bool) {
	switch kind {
	case api.KPair, api.KWeak, api.KEphem:
		return 2, 2, true
	case api.KVector:
		return 0, api.MaxVector, true
	case api.KGuard:
		return 0, 0, true
	default:
		return 0, 0, false
	}
}

// Parts answers the kind and how many fields a first word tells, and 0; or 0, 0 and a code.
func Parts(h int64) (int, int, int) {
	kind, fields := int(h&kindMask), int(h>>kindBits)
	if _, code := Head(kind, fields); code != 0 {
		return 0, 0, api.ErrBits
	}
	return kind, fields, 0
}
