package desk_test

import (
	"fmt"
	"math/big"
	"regexp"
	"strings"

	"underwood/api"
	"underwood/twin"
)

// clerk is a desk told otherwise: lines are read by patterns, and what is told is asked of a twin of its own.
type clerk struct{ twin *twin.Twin }

const numberPattern = `(0|-?[1-9][0-9]*)`

// patterns are those of all lines, by their words: made once, since many lines are held against each.
var patterns = func() map[string]*regexp.Regexp {
	made := map[string]*regexp.Regexp{}
	for _, form := range append(forms(), [2]string{"new", "NO"}, [2]string{"view", ""}) {
		made[form[0]] = regexp.MustCompile(`^ *` + form[0] + strings.Repeat(` +`+numberPattern, len(form[1])) + ` *$`)
	}
	return made
}()

// read answers the numbers of a line of a word; false: it is none.
func read(line, word string) ([]int64, bool) {
	found := patterns[word].FindStringSubmatch(line)
	if found == nil {
		return nil, false
	}
	var l []int64
	for _, digits := range found[1:] {
		n, ok := new(big.Int).SetString(digits, 10)
		if !ok || !n.IsInt64() {
			return nil, false
		}
		l = append(l, n.Int64())
	}
	return l, true
}

func (c *clerk) line(line string) string {
	if strings.Trim(line, " ") == "" {
		return ""
	}
	if n, ok := read(line, "new"); ok {
		return c.begin(n[0], n[1])
	}
	if c.twin == nil {
		return "what\n"
	}
	if _, ok := read(line, "view"); ok {
		return c.view()
	}
	for i, form := range forms() {
		if n, ok := read(line, form[0]); ok {
			return c.step(i+1, form[1], n)
		}
	}
	return "what\n"
}

func (c *clerk) begin(nursery, old int64) string {
	t, fault := twin.New(int(nursery), int(old))
	if c.twin = t; fault != (api.Fault{}) {
		c.twin = nil
		return fmt.Sprintln("no", fault.Code)
	}
	return "ok\n"
}

func (c *clerk) step(kind int, names string, numbers []int64) string {
	x := api.Step{Kind: kind, R: -7, A: -7, B: -7, I: -7, N: -7}
	for i, name := range names {
		n := numbers[i]
		switch name {
		case 'R':
			x.R = int(n)
		case 'A':
			x.A = int(n)
		case 'B':
			x.B = int(n)
		case 'I':
			x.I = int(n)
		case 'N':
			x.N = n
		}
	}
	switch code, fault := c.twin.Do(x); {
	case fault != (api.Fault{}):
		return fmt.Sprintln("no", fault.Code, fault.At)
	case code != 0:
		return fmt.Sprintln("no", code)
	}
	return "ok\n"
}

func (c *clerk) view() string {
	values := func(l []api.Val) string {
		told := ""
		for _, v := range l {
			told += map[int]string{api.VNil: " nil", api.VGone: " gone", api.VInt: fmt.Sprintf(" %d", v.N), api.VRef: fmt.Sprintf(" #%d", v.N)}[v.Kind]
		}
		return told
	}
	v := c.twin.View()
	told := "roots" + values(v.Roots) + "\n"
	for i, n := range v.Nodes {
		told += fmt.Sprintf("#%d %s%s\n", i, []string{"", "pair", "vector", "weak", "ephem", "guard"}[n.Kind], values(n.Fields))
	}
	young, old := c.twin.Used()
	return told + fmt.Sprintf("used %d %d\n", young, old)
}

func (c *clerk) do(lines []string) string {
	var told strings.Builder
	for _, line := range lines {
		told.WriteString(c.line(line))
	}
	return told.String()
}
