package desk

import (
	"testing"

	"underwood/api"
)

// P12.1: a fault of the twin is told with its code and At, again and again. As no twin tells one of itself,
// it is held here by a twin whose heap was led astray alone.
func TestTwinsFault(t *testing.T) {
	for ahead, want := range []string{"no 8 0\nno 8 0\nok\nok\n", "no 8 1\nno 8 1\nok\nok\n", "no 8 2\nno 8 2\nok\nok\n"} {
		d := New()
		d.Do([]string{"new 16 8"})
		for range ahead {
			d.Do([]string{"nil 0"})
		}
		d.twin.Heap.Do(api.Step{Kind: api.SInt, N: 7})
		if told, fault := d.Do([]string{"nil 1", "get 0 0 99", "new 16 8", "nil 1"}); told != want || fault != (api.Fault{}) {
			t.Errorf("behind %d steps: %q, %v, want %q", ahead, told, fault, want)
		}
	}
}
