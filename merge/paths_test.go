package merge

import (
	"fmt"
	"testing"

	"shipwright/api"
)

// R6, of what goes through the paths: it may be left early, and gone through again.
func TestPaths(t *testing.T) {
	three := [3]api.Repo{
		{Files: []api.File{{Path: "a", Text: "1"}, {Path: "b", Text: ""}}},
		{},
		{Files: []api.File{{Path: "b", Text: "3"}, {Path: "c", Text: "4"}}},
	}
	all := paths(three)
	want := []string{"a [{1 true} { false} { false}]", "b [{ true} { false} {3 true}]", "c [{ false} { false} {4 true}]"}
	for stop := range 4 {
		n := 0
		for path, stands := range all {
			if got := fmt.Sprint(path, " ", stands); n >= len(want) || got != want[n] {
				t.Errorf("%d: %s", n, got)
			}
			if n++; n == stop {
				break
			}
		}
		if stop > 0 && n != stop || stop == 0 && n != 3 {
			t.Errorf("to be left behind %d: %d", stop, n)
		}
	}
}
