package hash

import (
	"testing"

	"kibitzer/api"
)

// TestStopping: what tells the parts ends where who ranges over it has seen enough.
func TestStopping(t *testing.T) {
	p := api.Position{Promoted: 1<<5 | 1<<63}
	for name, told := range map[string]func(func(uint64) bool){"parts": parts(p), "partsOf": partsOf(p, 1), "marks": marks(p.Promoted)} {
		var all []uint64
		for part := range told {
			all = append(all, part)
		}
		for stop := range all {
			n := 0
			for part := range told {
				if part != all[n] {
					t.Errorf("%s: the part %d: %x, not %x", name, n, part, all[n])
				}
				if n == stop {
					break
				}
				n++
			}
			if n != stop {
				t.Errorf("%s: ended at %d, not at %d", name, n, stop)
			}
		}
	}
}
