package heap

import (
	"underwood/api"
	"underwood/word"
)

// Which roots a kind of steps uses, in sum.
const (
	usesR = 1
	usesA = 2
	usesB = 4

	noKind = -1
)

// Uses answers which of R, A, B a kind of steps uses: 1, 2, 4, in sum; -1: no such kind.
func Uses(kind int) int {
	switch kind {
	case api.SInt, api.SNil, api.SGuard:
		return usesR
	case api.SMove, api.SVector, api.SPop, api.SGet, api.SLen:
		return usesR + usesA
	case api.SPair, api.SWeak, api.SEphem, api.SSame:
		return usesR + usesA + usesB
	case api.SReg, api.SSet:
		return usesA + usesB
	case api.SMinor, api.SMajor:
		return 0
	default:
		return noKind
	}
}

// Check answers 0, if a step may be asked for in a heap; or a code.
func Check(x api.Step) int {
	uses := Uses(x.Kind)
	if uses == noKind {
		return api.ErrKind
	}
	if uses&usesR != 0 && !isRoot(x.R) || uses&usesA != 0 && !isRoot(x.A) || uses&usesB != 0 && !isRoot(x.B) {
		return api.ErrRange
	}
	return checkNumber(x)
}

func isRoot(r int) bool { return r >= 0 && r < api.MaxRoots }

// checkNumber asks those that need N what they take, so that no step is let by that they would refuse.
func checkNumber(x api.Step) int {
	code := 0
	switch x.Kind {
	case api.SInt:
		_, code = number(x.N)
	case api.SVector:
		_, code = word.Head(api.KVector, int(x.N))
	}
	return code
}
