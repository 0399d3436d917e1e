package tests

import (
	"testing"

	"loop.example/kilnweb/impl"
)

// The document's table of limits; most tests take them by their names, so that none of them sees another value.
func TestLimits(t *testing.T) {
	for i, c := range []struct{ got, want int }{
		{impl.MaxName, 20}, {impl.MaxGive, 30}, {impl.MaxText, 200}, {impl.MaxSteps, 20}, {impl.MaxAsks, 5},
		{impl.MaxCases, 5}, {impl.MaxCost, 20}, {impl.MaxVisits, 20}, {impl.MaxNodes, 60}, {impl.MaxRoots, 10},
		{impl.MaxWorkers, 60}, {impl.MaxForm, 100000}, {impl.MaxSession, 20000}, {impl.MaxLines, 400},
	} {
		if c.got != c.want {
			t.Errorf("limit %d: %d, not %d", i, c.got, c.want)
		}
	}
}
