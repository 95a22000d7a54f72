package desk

import (
	"strconv"
	"strings"

	"underwood/api"
	"underwood/heap"
)

const (
	blank   = " "
	newline = "\n"
)

// mostWords is how many words a line has at most: that of a step, and three numbers.
const mostWords = 4

// wordsOf answers the words of a line. Of one that has too many for any line those behind are left out but for one,
// so that a line of any length needs no more memory than another.
func wordsOf(line string) []string {
	var words []string
	rest := strings.TrimLeft(line, blank)
	for rest != "" && len(words) <= mostWords {
		first, behind, _ := strings.Cut(rest, blank)
		words = append(words, first)
		rest = strings.TrimLeft(behind, blank)
	}
	return words
}

// numbersOf answers words as numbers; false: one of them is none.
func numbersOf(words []string) ([]int64, bool) {
	var numbers []int64
	for _, w := range words {
		n, err := strconv.ParseInt(w, 10, 64)
		// A number is written in one way alone: the one in which it is told.
		if err != nil || decimal(n) != w {
			return nil, false
		}
		numbers = append(numbers, n)
	}
	return numbers, true
}

func decimal(n int64) string { return strconv.FormatInt(n, 10) }

// Which roots a kind of steps uses, in the sum that heap.Uses answers.
const (
	usesR = 1
	usesA = 2
	usesB = 4
)

// stepOf answers the step of a kind, with the numbers of a line; false: they are not as many as it has.
func stepOf(kind int, numbers []int64) (api.Step, bool) {
	x := api.Step{Kind: kind}
	slots := slotsOf(&x)
	if len(slots) != len(numbers) {
		return api.Step{}, false
	}
	for i, put := range slots {
		put(numbers[i])
	}
	return x, true
}

// slotsOf answers what puts a number into a step, for each number that a step of its kind has, in the order in which they stand in a line.
func slotsOf(x *api.Step) []func(n int64) {
	var slots []func(n int64)
	add := func(has bool, put func(n int64)) {
		if has {
			slots = append(slots, put)
		}
	}
	uses := heap.Uses(x.Kind)
	add(uses&usesR != 0, func(n int64) { x.R = int(n) })
	add(uses&usesA != 0, func(n int64) { x.A = int(n) })
	add(x.Kind == api.SGet || x.Kind == api.SSet, func(n int64) { x.I = int(n) })
	add(uses&usesB != 0, func(n int64) { x.B = int(n) })
	add(x.Kind == api.SInt || x.Kind == api.SVector, func(n int64) { x.N = n })
	return slots
}
