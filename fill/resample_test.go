package fill

import (
	"testing"

	"fluxmast/num"
)

// What walks resamples can be left at any one, and begins with the seed again.
func TestResamples(t *testing.T) {
	var l []Night
	for i := range 5 {
		l = append(l, Night{Friction: num.Int(int64(i))})
	}
	walk := resamples(l, 9, 4)
	for stop := range 5 {
		seed, count := uint64(9), 0
		for drawn := range walk {
			if count == stop {
				break
			}
			count++
			numbers, last, _ := Sample(seed, len(l))
			seed = last
			for i, number := range numbers {
				if !drawn[i].Friction.Same(l[number].Friction) {
					t.Errorf("resample %d: the night %d is %s, want %d", count, i, drawn[i].Friction.Text(), number)
				}
			}
		}
		if count != stop {
			t.Errorf("%d resamples, want %d", count, stop)
		}
	}
}
