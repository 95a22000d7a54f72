package word_test

import (
	"math"
	"testing"

	"underwood/api"
	"underwood/word"
)

// edges are numbers around every bound that the chapter names, and around those of 64 bits.
func edges() []int64 {
	var l []int64
	for _, mid := range []int64{
		0, 16, 32, 48, 16 * api.MaxVector, 1 << 32,
		api.MaxInt, -api.MaxInt, 2 * api.MaxInt, -2 * api.MaxInt, 4 * api.MaxInt, -4 * api.MaxInt,
		math.MinInt64, math.MaxInt64,
	} {
		// Beyond the ends of 64 bits this wraps round, to numbers that are edges as well.
		for d := int64(-20); d <= 20; d++ {
			l = append(l, mid+d)
		}
	}
	return l
}

func ints(l []int64) []int {
	var out []int
	for _, n := range l {
		out = append(out, int(n))
	}
	return out
}

// kinds are those that there are, of values and of things, and many that are none.
func kinds() []int {
	l := []int{math.MinInt, math.MinInt + 1, math.MaxInt, 1 << 32, 1<<32 + 1, 1 << 62}
	for k := -20; k <= 40; k++ {
		l = append(l, k)
	}
	return l
}

// isValue says in the chapter's own terms which values have words.
func isValue(v api.Val) bool {
	switch v.Kind {
	case api.VNil, api.VGone:
		return v.N == 0
	case api.VInt:
		return -api.MaxInt <= v.N && v.N <= api.MaxInt-1
	case api.VRef:
		return 0 <= v.N && v.N <= api.MaxInt-1
	}
	return false
}

// isThing says in the chapter's own terms which things have first words.
func isThing(kind, fields int) bool {
	switch kind {
	case api.KPair, api.KWeak, api.KEphem:
		return fields == 2
	case api.KVector:
		return 0 <= fields && fields <= 12
	case api.KGuard:
		return fields == 0
	}
	return false
}

// P1.1
func TestEncode(t *testing.T) {
	for _, x := range []struct {
		name string
		v    api.Val
		w    int64
		code int
	}{
		{"nil", api.Val{Kind: api.VNil}, 2, 0},
		{"gone", api.Val{Kind: api.VGone}, 3, 0},
		{"int 0", api.Val{Kind: api.VInt}, 0, 0},
		{"int 1", api.Val{Kind: api.VInt, N: 1}, 4, 0},
		{"int -1", api.Val{Kind: api.VInt, N: -1}, -4, 0},
		{"int 1000", api.Val{Kind: api.VInt, N: 1000}, 4000, 0},
		{"least int", api.Val{Kind: api.VInt, N: -1 << 60}, -1 << 62, 0},
		{"greatest int", api.Val{Kind: api.VInt, N: 1<<60 - 1}, 1<<62 - 4, 0},
		{"ref 0", api.Val{Kind: api.VRef}, 1, 0},
		{"ref 1", api.Val{Kind: api.VRef, N: 1}, 5, 0},
		{"greatest ref", api.Val{Kind: api.VRef, N: 1<<60 - 1}, 1<<62 - 3, 0},

		{"int below", api.Val{Kind: api.VInt, N: -1<<60 - 1}, 0, api.ErrRange},
		{"int above", api.Val{Kind: api.VInt, N: 1 << 60}, 0, api.ErrRange},
		{"int that wraps to 0", api.Val{Kind: api.VInt, N: 1 << 62}, 0, api.ErrRange},
		{"int at the lower end of 64 bits", api.Val{Kind: api.VInt, N: math.MinInt64}, 0, api.ErrRange},
		{"int at the upper end of 64 bits", api.Val{Kind: api.VInt, N: math.MaxInt64}, 0, api.ErrRange},
		{"ref below", api.Val{Kind: api.VRef, N: -1}, 0, api.ErrRange},
		{"ref above", api.Val{Kind: api.VRef, N: 1 << 60}, 0, api.ErrRange},
		{"ref that wraps to 0", api.Val{Kind: api.VRef, N: 1 << 62}, 0, api.ErrRange},
		{"nil with 1", api.Val{Kind: api.VNil, N: 1}, 0, api.ErrBits},
		{"nil with -1", api.Val{Kind: api.VNil, N: -1}, 0, api.ErrBits},
		{"nil that wraps to 0", api.Val{Kind: api.VNil, N: 1 << 62}, 0, api.ErrBits},
		{"nil far off", api.Val{Kind: api.VNil, N: 1 << 60}, 0, api.ErrBits},
		{"gone with 1", api.Val{Kind: api.VGone, N: 1}, 0, api.ErrBits},
		{"gone with -1", api.Val{Kind: api.VGone, N: -1}, 0, api.ErrBits},
		{"gone that wraps to 0", api.Val{Kind: api.VGone, N: math.MinInt64}, 0, api.ErrBits},
		{"kind -1", api.Val{Kind: -1}, 0, api.ErrKind},
		{"kind 4", api.Val{Kind: 4}, 0, api.ErrKind},
		{"kind 4 with an N", api.Val{Kind: 4, N: 1}, 0, api.ErrKind},
		{"kind 4 with an N out of range", api.Val{Kind: 4, N: 1 << 60}, 0, api.ErrKind},
		{"kind -1 with an N out of range", api.Val{Kind: -1, N: math.MinInt64}, 0, api.ErrKind},
		{"a kind whose low half is VInt", api.Val{Kind: 1<<32 + api.VInt}, 0, api.ErrKind},
	} {
		if w, code := word.Encode(x.v); w != x.w || code != x.code {
			t.Errorf("%s: Encode(%v) = %d, %d, want %d, %d", x.name, x.v, w, code, x.w, x.code)
		}
	}
}

// P1.2
func TestDecode(t *testing.T) {
	for _, x := range []struct {
		name string
		w    int64
		v    api.Val
		code int
	}{
		{"int 0", 0, api.Val{Kind: api.VInt}, 0},
		{"ref 0", 1, api.Val{Kind: api.VRef}, 0},
		{"nil", 2, api.Val{Kind: api.VNil}, 0},
		{"gone", 3, api.Val{Kind: api.VGone}, 0},
		{"int 5", 20, api.Val{Kind: api.VInt, N: 5}, 0},
		{"int -5", -20, api.Val{Kind: api.VInt, N: -5}, 0},
		{"ref 5", 21, api.Val{Kind: api.VRef, N: 5}, 0},
		{"least int", -1 << 62, api.Val{Kind: api.VInt, N: -1 << 60}, 0},
		{"greatest int", 1<<62 - 4, api.Val{Kind: api.VInt, N: 1<<60 - 1}, 0},
		{"greatest ref", 1<<62 - 3, api.Val{Kind: api.VRef, N: 1<<60 - 1}, 0},

		{"int below", -1<<62 - 4, api.Val{}, api.ErrRange},
		{"int above", 1 << 62, api.Val{}, api.ErrRange},
		{"int at the lower end of 64 bits", math.MinInt64, api.Val{}, api.ErrRange},
		{"int at the upper end of 64 bits", math.MaxInt64 - 3, api.Val{}, api.ErrRange},
		{"ref -1", -3, api.Val{}, api.ErrRange},
		{"ref above", 1<<62 + 1, api.Val{}, api.ErrRange},
		{"ref at the lower end of 64 bits", math.MinInt64 + 1, api.Val{}, api.ErrRange},
		{"1 above nil", 6, api.Val{}, api.ErrBits},
		{"-1 above nil", -2, api.Val{}, api.ErrBits},
		{"the topmost bit above nil", math.MinInt64 + 2, api.Val{}, api.ErrBits},
		{"1 above gone", 7, api.Val{}, api.ErrBits},
		{"-1 above gone", -1, api.Val{}, api.ErrBits},
		{"all bits but the topmost", math.MaxInt64, api.Val{}, api.ErrBits},
	} {
		if v, code := word.Decode(x.w); v != x.v || code != x.code {
			t.Errorf("%s: Decode(%d) = %v, %d, want %v, %d", x.name, x.w, v, code, x.v, x.code)
		}
	}
}

// What follows, of values: there and back.
func TestValueThereAndBack(t *testing.T) {
	for _, kind := range kinds() {
		for _, n := range edges() {
			v := api.Val{Kind: kind, N: n}
			w, code := word.Encode(v)
			if (code == 0) != isValue(v) {
				t.Errorf("Encode(%v) has the code %d", v, code)
			}
			if code != 0 {
				if w != 0 {
					t.Errorf("Encode(%v) = %d with the code %d", v, w, code)
				}
				continue
			}
			if back, code := word.Decode(w); back != v || code != 0 {
				t.Errorf("%v is %d, which is %v, %d", v, w, back, code)
			}
		}
	}
}

// What follows, of values: back and there.
func TestWordBackAndThere(t *testing.T) {
	for _, w := range edges() {
		v, code := word.Decode(w)
		if code != 0 {
			if v != (api.Val{}) {
				t.Errorf("Decode(%d) = %v with the code %d", w, v, code)
			}
			continue
		}
		if !isValue(v) {
			t.Errorf("Decode(%d) = %v, which is no value", w, v)
		}
		if there, code := word.Encode(v); there != w || code != 0 {
			t.Errorf("%d is %v, which is %d, %d", w, v, there, code)
		}
	}
}

// The face of Ref.
func TestRef(t *testing.T) {
	for _, x := range []struct {
		at int
		w  int64
	}{{0, 1}, {1, 5}, {7, 29}, {255, 1021}, {1<<60 - 1, 1<<62 - 3}} {
		if w := word.Ref(x.at); w != x.w {
			t.Errorf("Ref(%d) = %d, want %d", x.at, w, x.w)
		}
	}
}

// The faces of Ref and At: each place is found again, and no other number becomes one.
func TestPlaceThereAndBack(t *testing.T) {
	for _, want := range ints(edges()) {
		is := 0 <= want && want <= api.MaxInt-1
		at, ok := word.At(word.Ref(want))
		if ok != is || is && at != want || !is && at != 0 {
			t.Errorf("At(Ref(%d)) = %d, %v", want, at, ok)
		}
	}
}

// The face of At.
func TestAt(t *testing.T) {
	for _, x := range []struct {
		name string
		w    int64
		at   int
		ok   bool
	}{
		{"place 0", 1, 0, true},
		{"place 9", 37, 9, true},
		{"the last place", 1<<62 - 3, 1<<60 - 1, true},
		{"int 0", 0, 0, false},
		{"int 2", 8, 0, false},
		{"nil", 2, 0, false},
		{"gone", 3, 0, false},
		{"place -1", -3, 0, false},
		{"behind the last place", 1<<62 + 1, 0, false},
		{"the topmost bit above ref", math.MinInt64 + 1, 0, false},
		{"1 above nil", 6, 0, false},
		{"1 above gone", 7, 0, false},
	} {
		if at, ok := word.At(x.w); at != x.at || ok != x.ok {
			t.Errorf("%s: At(%d) = %d, %v, want %d, %v", x.name, x.w, at, ok, x.at, x.ok)
		}
	}
}

// The face of At, back and there; and it tells no more than Decode.
func TestAtAsDecode(t *testing.T) {
	for _, w := range edges() {
		v, code := word.Decode(w)
		is := code == 0 && v.Kind == api.VRef
		at, ok := word.At(w)
		if ok != is || is && int64(at) != v.N || !is && at != 0 {
			t.Errorf("At(%d) = %d, %v, but Decode tells %v, %d", w, at, ok, v, code)
		}
		if ok && word.Ref(at) != w {
			t.Errorf("Ref(At(%d)) = %d", w, word.Ref(at))
		}
	}
}

// The faces of Nil and Gone.
func TestNilAndGone(t *testing.T) {
	for _, x := range []struct {
		name    string
		w, want int64
		kind    int
	}{{"Nil", word.Nil(), 2, api.VNil}, {"Gone", word.Gone(), 3, api.VGone}} {
		if x.w != x.want {
			t.Errorf("%s() = %d, want %d", x.name, x.w, x.want)
		}
		if w, code := word.Encode(api.Val{Kind: x.kind}); w != x.w || code != 0 {
			t.Errorf("%s() = %d, but Encode tells %d, %d", x.name, x.w, w, code)
		}
	}
}

// P1.3
func TestHead(t *testing.T) {
	for _, x := range []struct {
		name         string
		kind, fields int
		h            int64
		code         int
	}{
		{"pair", api.KPair, 2, 33, 0},
		{"weak pair", api.KWeak, 2, 35, 0},
		{"ephemeron", api.KEphem, 2, 36, 0},
		{"guardian", api.KGuard, 0, 5, 0},
		{"vector of 0", api.KVector, 0, 2, 0},
		{"vector of 1", api.KVector, 1, 18, 0},
		{"vector of 3", api.KVector, 3, 50, 0},
		{"vector of MaxVector", api.KVector, 12, 194, 0},

		{"pair of 0", api.KPair, 0, 0, api.ErrRange},
		{"pair of 1", api.KPair, 1, 0, api.ErrRange},
		{"pair of 3", api.KPair, 3, 0, api.ErrRange},
		{"pair of -2", api.KPair, -2, 0, api.ErrRange},
		{"weak pair of 1", api.KWeak, 1, 0, api.ErrRange},
		{"weak pair of 3", api.KWeak, 3, 0, api.ErrRange},
		{"ephemeron of 1", api.KEphem, 1, 0, api.ErrRange},
		{"ephemeron of 3", api.KEphem, 3, 0, api.ErrRange},
		{"guardian of 1", api.KGuard, 1, 0, api.ErrRange},
		{"guardian of -1", api.KGuard, -1, 0, api.ErrRange},
		{"guardian of 2", api.KGuard, 2, 0, api.ErrRange},
		{"vector of -1", api.KVector, -1, 0, api.ErrRange},
		{"vector of MaxVector + 1", api.KVector, 13, 0, api.ErrRange},
		{"vector that wraps to 0", api.KVector, 1 << 60, 0, api.ErrRange},
		{"vector of the least number", api.KVector, math.MinInt, 0, api.ErrRange},
		{"vector of the greatest number", api.KVector, math.MaxInt, 0, api.ErrRange},
		{"kind 0", 0, 0, 0, api.ErrKind},
		{"kind 0 of 2", 0, 2, 0, api.ErrKind},
		{"kind 6", 6, 0, 0, api.ErrKind},
		{"kind 6 of 2", 6, 2, 0, api.ErrKind},
		{"kind -1", -1, 2, 0, api.ErrKind},
		{"kind 17, whose low bits are a pair's", 17, 2, 0, api.ErrKind},
		{"no kind and no such fields", 6, -1, 0, api.ErrKind},
		{"no kind and too many fields", 0, 13, 0, api.ErrKind},
	} {
		if h, code := word.Head(x.kind, x.fields); h != x.h || code != x.code {
			t.Errorf("%s: Head(%d, %d) = %d, %d, want %d, %d", x.name, x.kind, x.fields, h, code, x.h, x.code)
		}
	}
}

// P1.4
func TestParts(t *testing.T) {
	for _, x := range []struct {
		name               string
		h                  int64
		kind, fields, code int
	}{
		{"pair", 33, api.KPair, 2, 0},
		{"weak pair", 35, api.KWeak, 2, 0},
		{"ephemeron", 36, api.KEphem, 2, 0},
		{"guardian", 5, api.KGuard, 0, 0},
		{"vector of 0", 2, api.KVector, 0, 0},
		{"vector of MaxVector", 194, api.KVector, 12, 0},

		{"0", 0, 0, 0, api.ErrBits},
		{"kind 0 of 2", 32, 0, 0, api.ErrBits},
		{"kind 6", 6, 0, 0, api.ErrBits},
		{"kind 6 of 2", 38, 0, 0, api.ErrBits},
		{"kind 15", 15, 0, 0, api.ErrBits},
		{"pair of 0", 1, 0, 0, api.ErrBits},
		{"pair of 1", 17, 0, 0, api.ErrBits},
		{"pair of 3", 49, 0, 0, api.ErrBits},
		{"weak pair of 0", 3, 0, 0, api.ErrBits},
		{"ephemeron of 0", 4, 0, 0, api.ErrBits},
		{"guardian of 1", 21, 0, 0, api.ErrBits},
		{"vector of -1", -14, 0, 0, api.ErrBits},
		{"vector of MaxVector + 1", 210, 0, 0, api.ErrBits},
		{"vector and the topmost bit", math.MinInt64 + 2, 0, 0, api.ErrBits},
		{"vector and a bit of the upper half", 1<<36 + 2, 0, 0, api.ErrBits},
		{"-1", -1, 0, 0, api.ErrBits},
		{"the greatest number", math.MaxInt64, 0, 0, api.ErrBits},
		{"the least number", math.MinInt64, 0, 0, api.ErrBits},
	} {
		if kind, fields, code := word.Parts(x.h); kind != x.kind || fields != x.fields || code != x.code {
			t.Errorf("%s: Parts(%d) = %d, %d, %d, want %d, %d, %d", x.name, x.h, kind, fields, code, x.kind, x.fields, x.code)
		}
	}
}

// What follows, of first words: there and back.
func TestHeadThereAndBack(t *testing.T) {
	for _, kind := range kinds() {
		for _, fields := range ints(edges()) {
			h, code := word.Head(kind, fields)
			if (code == 0) != isThing(kind, fields) {
				t.Errorf("Head(%d, %d) has the code %d", kind, fields, code)
			}
			if code != 0 {
				if h != 0 {
					t.Errorf("Head(%d, %d) = %d with the code %d", kind, fields, h, code)
				}
				continue
			}
			if k, n, code := word.Parts(h); k != kind || n != fields || code != 0 {
				t.Errorf("Head(%d, %d) = %d, whose parts are %d, %d, %d", kind, fields, h, k, n, code)
			}
		}
	}
}

// What follows, of first words: back and there. There are 17 first words: 13 of vectors, 4 others.
func TestPartsBackAndThere(t *testing.T) {
	count := 0
	for h := int64(-5000); h <= 5000; h++ {
		if checkParts(t, h) {
			count++
		}
	}
	if count != 17 {
		t.Errorf("%d first words, want 17", count)
	}
	for _, h := range edges() {
		checkParts(t, h)
	}
}

// checkParts tells whether a word is a first word.
func checkParts(t *testing.T, h int64) bool {
	t.Helper()
	kind, fields, code := word.Parts(h)
	if code != 0 {
		if kind != 0 || fields != 0 || code != api.ErrBits {
			t.Errorf("Parts(%d) = %d, %d, %d", h, kind, fields, code)
		}
		return false
	}
	if !isThing(kind, fields) {
		t.Errorf("Parts(%d) = %d, %d, which is no thing", h, kind, fields)
	}
	if there, code := word.Head(kind, fields); there != h || code != 0 {
		t.Errorf("Parts(%d) = %d, %d, whose first word is %d, %d", h, kind, fields, there, code)
	}
	return true
}

// told is all that the package answers of some numbers.
type told struct {
	encoded, ref, none, gone, head              int64
	encodeCode, decodeCode, headCode, partsCode int
	decoded                                     api.Val
	at, kind, fields                            int
	leads                                       bool
}

func tell(kind int, n int64) told {
	var x told
	x.encoded, x.encodeCode = word.Encode(api.Val{Kind: kind, N: n})
	x.decoded, x.decodeCode = word.Decode(n)
	x.ref = word.Ref(int(n))
	x.at, x.leads = word.At(n)
	x.none, x.gone = word.Nil(), word.Gone()
	x.head, x.headCode = word.Head(kind, int(n))
	x.kind, x.fields, x.partsCode = word.Parts(n)
	return x
}

// P1: no call panics, whatever it is given, and a second time, in another order, the same is told.
func TestAnswersHangOnArgumentsAlone(t *testing.T) {
	var first []told
	for _, kind := range kinds() {
		for _, n := range edges() {
			first = append(first, tell(kind, n))
		}
	}
	ks, ns := kinds(), edges()
	for i := len(first) - 1; i >= 0; i-- {
		kind, n := ks[i/len(ns)], ns[i%len(ns)]
		if again := tell(kind, n); again != first[i] {
			t.Errorf("of %d, %d: %v, then %v", kind, n, first[i], again)
		}
	}
}
