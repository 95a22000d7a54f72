package desk

import "underwood/api"

// stepWords are the words of steps, by their kinds.
var stepWords = [...]string{
	api.SInt:    "int",
	api.SNil:    "nil",
	api.SMove:   "move",
	api.SPair:   "pair",
	api.SVector: "vector",
	api.SWeak:   "weak",
	api.SEphem:  "ephem",
	api.SGuard:  "guard",
	api.SReg:    "reg",
	api.SPop:    "pop",
	api.SGet:    "get",
	api.SSet:    "set",
	api.SLen:    "len",
	api.SSame:   "same",
	api.SMinor:  "minor",
	api.SMajor:  "major",
}

// Word answers the word of a kind of steps; "": no such kind.
func Word(kind int) string {
	if kind < 0 || kind >= len(stepWords) {
		return ""
	}
	return stepWords[kind]
}

// kindOf answers the kind of steps that has a word; false: none has.
func kindOf(w string) (int, bool) {
	for kind := api.SInt; kind <= api.SMajor; kind++ {
		if Word(kind) == w {
			return kind, true
		}
	}
	return 0, false
}

// thingWord answers the word of a kind of things.
func thingWord(kind int) string {
	switch kind {
	case api.KPair:
		return "pair"
	case api.KVector:
		return "vector"
	case api.KWeak:
		return "weak"
	case api.KEphem:
		return "ephem"
	default: // KGuard, the only one that is left
		return "guard"
	}
}
