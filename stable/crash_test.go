package stable_test

import (
	"fmt"
	"math"
	"testing"

	"conclave/api"
	"conclave/stable"
)

// TestSync: P9.5: all bytes are synced, whatever they are, and stay as they are.
func TestSync(t *testing.T) {
	for _, x := range rightTapes() {
		got, e := stable.Sync(x)
		wantTape(t, "Sync of "+brief(x), got, e, tape(x.Data, len(x.Data)))
		again, e := stable.Sync(got)
		wantTape(t, "Sync twice of "+brief(x), again, e, got)
	}
}

// TestCrashOfExamples: P9.6: told by hand.
func TestCrashOfExamples(t *testing.T) {
	data := []byte{10, 11, 12, 13, 14}
	for _, c := range []struct{ synced, keep, left int }{
		{0, 0, 0}, {0, 1, 1}, {0, 4, 4}, {0, 5, 5}, {0, 6, 5},
		{2, 0, 2}, {2, 1, 3}, {2, 2, 4}, {2, 3, 5}, {2, 4, 5}, {2, math.MaxInt, 5},
		{4, 0, 4}, {4, 1, 5}, {4, 2, 5},
		{5, 0, 5}, {5, 1, 5}, {5, math.MaxInt, 5},
	} {
		got, e := stable.Crash(tape(data, c.synced), c.keep)
		wantTape(t, fmt.Sprint("Crash of ", c), got, e, tape(data[:c.left], c.left))
	}
}

// TestCrashOfEdges: P9.6: keep at 0, about the number of bytes that are not synced, and far above it; tapes at the bounds.
func TestCrashOfEdges(t *testing.T) {
	for _, x := range rightTapes() {
		rest := len(x.Data) - x.Synced
		for _, keep := range []int{0, rest / 2, rest - 1, rest} {
			if keep >= 0 {
				got, e := stable.Crash(x, keep)
				wantTape(t, fmt.Sprint("Crash with ", keep, " of ", brief(x)), got, e, tape(x.Data[:x.Synced+keep], x.Synced+keep))
			}
		}
		for _, keep := range []int{rest + 1, len(x.Data) + 1, 1 << 32, math.MaxInt - len(x.Data), math.MaxInt - 1, math.MaxInt} {
			got, e := stable.Crash(x, keep)
			wantTape(t, fmt.Sprint("Crash with ", keep, " of ", brief(x)), got, e, tape(x.Data, len(x.Data)))
		}
	}
}

// TestCrashRefuses: P9.6: keep below 0.
func TestCrashRefuses(t *testing.T) {
	for _, x := range rightTapes() {
		for _, keep := range []int{-1, -2, -len(x.Data) - 1, -x.Synced - 1, math.MinInt32, math.MinInt} {
			got, e := stable.Crash(x, keep)
			wantNoTape(t, fmt.Sprint("Crash with ", keep, " of ", brief(x)), got, e, api.ErrRange)
		}
	}
}
