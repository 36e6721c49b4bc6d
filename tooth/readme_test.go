package tooth_test

import (
	"slices"
	"testing"

	"panache/api"
	"panache/tooth"
)

// The README shows this call.
func TestReadme(t *testing.T) {
	blade := api.ToothBlade{
		Bottom: []api.Span{{Low: 0, High: 2}, {Low: 0, High: 0}},
		Top:    []api.Span{{Low: 30, High: 30}, {Low: 28, High: 30}},
		Bend:   10,
	}
	sticks, e := tooth.Most(blade, api.ToothSaw{Long: 2, Wide: 6, Kerf: 1})
	if want := []api.ToothPlace{{X: 0, Y: 2}, {X: 0, Y: 9}, {X: 0, Y: 16}}; !slices.Equal(sticks, want) || e != api.OK {
		t.Error(sticks, e)
	}
}
