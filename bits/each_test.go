package bits

import (
	"slices"
	"testing"
)

func TestEachStopsAndStartsAnew(t *testing.T) {
	squares := each(1<<3 | 1<<9 | 1<<63)
	var seen []int
	for s := range squares {
		seen = append(seen, s)
		if s == 9 {
			break
		}
	}
	for s := range squares {
		seen = append(seen, s)
	}
	if want := []int{3, 9, 3, 9, 63}; !slices.Equal(seen, want) {
		t.Errorf("each: %v, not %v", seen, want)
	}
}
