package ring

import (
	"fmt"
	"slices"
	"testing"
)

// P6.2: points of two hosts that are alike. No two of the points that hosts have are, so the ring is laid by hand here.
func TestAlikePointsGoByHosts(t *testing.T) {
	at := Point("shard/5")
	for _, hosts := range [][]int{{3, 9, 12}, {12, 9, 3}, {9, 12, 3}, {9, 3, 12}} {
		r := &Ring{}
		for _, host := range hosts {
			r.spots = append(r.spots, spot{at + 1, 15 - host}, spot{at, host}, spot{at - 1i, host - 3})
		}
		slices.SortFunc(r.spots, order)
		told := ""
		for z, host := range r.All() {
			told += fmt.Sprint(z-at, host, ", ")
		}
		if want := "(0-1i) 0, (0-1i) 6, (0-1i) 9, (0+0i) 3, (0+0i) 9, (0+0i) 12, (1+0i) 3, (1+0i) 6, (1+0i) 12, "; told != want {
			t.Fatalf("told %s, want %s", told, want)
		}
		if host, ok := r.Host(5); host != 3 || !ok {
			t.Fatalf("Host is %d, %v", host, ok)
		}
	}
}

// The first point of all is two hosts', and the shard lies behind the last one.
func TestAlikeFirstPoints(t *testing.T) {
	at := Point("shard/5")
	r := &Ring{spots: []spot{{at - 1, 1}, {at - 9, 7}, {at - 1i, 0}, {at - 9, 4}}}
	slices.SortFunc(r.spots, order)
	if host, ok := r.Host(5); host != 4 || !ok {
		t.Fatalf("Host is %d, %v", host, ok)
	}
}
