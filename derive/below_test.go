package derive

import (
	"testing"

	"eddy/api"
	"eddy/chans"
)

// What an input is told as here is what it is told as at a node: its channel's record, and then its input.
func TestP19_5InputIsWhatANodeTells(t *testing.T) {
	for _, kind := range kinds() {
		for _, scale := range scales() {
			made, wrong := chans.Create(nil, 3, "m", kind, scale)
			for _, x := range numbers() {
				var want int64
				l, wantErr := made, wrong
				if wrong == api.OK {
					l, wantErr = chans.Set(made, 3, "m", x)
					want = l[0].Input
				}
				if got, err := Input(kind, x, scale); got != want || err != wantErr {
					t.Errorf("Input(%d, %d, %d): %d, %d, at a node %d, %d", kind, x, scale, got, err, want, wantErr)
				}
			}
		}
	}
}
