package life_test

import (
	"math"
	"slices"
	"testing"

	"hostler/api"
	"hostler/life"
)

// odd are no states.
var odd = []int{0, -1, 8, 9, 256 + api.Running, math.MinInt, math.MaxInt}

func TestOver(t *testing.T) {
	for state := -3; state <= 12; state++ {
		want := slices.Contains([]int{api.Finished, api.Failed, api.Killed, api.Lost, api.Refused}, state)
		if got := life.Over(state); got != want {
			t.Errorf("%d: %v", state, got)
		}
	}
	for _, state := range odd {
		if life.Over(state) {
			t.Errorf("%d is over", state)
		}
	}
}

func TestMay(t *testing.T) {
	steps := map[int][]int{
		api.Staging: {api.Running, api.Finished, api.Failed, api.Killed, api.Lost, api.Refused},
		api.Running: {api.Finished, api.Failed, api.Killed, api.Lost},
	}
	for from := -3; from <= 12; from++ {
		for to := -3; to <= 12; to++ {
			if got := life.May(from, to); got != slices.Contains(steps[from], to) {
				t.Errorf("%d, %d: %v", from, to, got)
			}
		}
	}
	for _, x := range odd {
		for _, y := range append([]int{api.Staging, api.Running, api.Lost}, odd...) {
			if life.May(x, y) || life.May(y, x) {
				t.Errorf("%d, %d", x, y)
			}
		}
	}
}

func TestName(t *testing.T) {
	for state, want := range map[int]string{1: "staging", 2: "running", 3: "finished", 4: "failed", 5: "killed", 6: "lost", 7: "refused"} {
		if got := life.Name(state); got != want {
			t.Errorf("%d: %q", state, got)
		}
	}
	for _, state := range odd {
		if got := life.Name(state); got != "" {
			t.Errorf("%d: %q", state, got)
		}
	}
}

func TestOf(t *testing.T) {
	for _, r := range []struct {
		states []int
		want   int
	}{
		{nil, api.Staging},
		{[]int{api.Running}, api.Running},
		{[]int{api.Finished}, api.Finished},
		{[]int{api.Refused}, api.Refused},
		{[]int{api.Running, api.Finished}, api.Finished},
		{[]int{api.Running, api.Lost}, api.Lost},
		{[]int{api.Running, api.Refused}, 0},
		{[]int{api.Running, api.Running}, 0},
		{[]int{api.Staging}, 0},
		{[]int{api.Staging, api.Running}, 0},
		{[]int{api.Running, api.Staging}, 0},
		{[]int{api.Finished, api.Finished}, 0},
		{[]int{api.Finished, api.Running}, 0},
		{[]int{api.Running, api.Killed, api.Lost}, 0},
		{[]int{0}, 0},
		{[]int{0, api.Running}, 0},
		{[]int{8}, 0},
		{[]int{api.Running, -1}, 0},
	} {
		before := slices.Clone(r.states)
		if got := life.Of(r.states...); got != r.want {
			t.Errorf("%d: %d", r.states, got)
		}
		if !slices.Equal(r.states, before) {
			t.Error("the argument was changed")
		}
	}
	for a := range 9 {
		for b := range 9 {
			want := 0
			if life.May(api.Staging, a) && life.May(a, b) {
				want = b
			}
			if got := life.Of(a, b); got != want {
				t.Errorf("%d, %d: %d", a, b, got)
			}
		}
	}
}
