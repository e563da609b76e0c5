package crew_test

import (
	"fmt"
	"slices"
	"testing"

	"hostler/api"
	"hostler/crew"
	"hostler/run"
)

// runs returns some runs of different executors.
func runs() []*run.Run {
	return []*run.Run{run.New("f", "e", 1), run.New("g", "e", 1), run.New("f", "a", 7), run.New("a", "z", 3)}
}

// with returns a crew with these runs.
func with(t *testing.T, l []*run.Run) *crew.Crew {
	t.Helper()
	c := crew.New()
	for _, r := range l {
		if err := c.Add(r); err != api.OK {
			t.Errorf("Add: %d", err)
		}
	}
	return c
}

func TestANewCrew(t *testing.T) {
	c := crew.New()
	if c.Find("f", "e") != nil || c.Exact("f", "e", 1) != nil || c.Drop("f", "e") || len(c.All()) != 0 || len(c.Late(99)) != 0 {
		t.Error("a run is there")
	}
}

func TestAdd(t *testing.T) {
	l := runs()
	c := with(t, l)
	if got := c.All(); !slices.Equal(got, l) {
		t.Error("not all are there, in their order")
	}
	for _, r := range []*run.Run{run.New("f", "e", 1), run.New("f", "e", 2), run.New("a", "z", 9), l[0]} {
		if err := c.Add(r); err != api.ErrThere {
			t.Errorf("Add: %d", err)
		}
	}
	if got := c.All(); !slices.Equal(got, l) {
		t.Error("an error has changed something")
	}
}

func TestFindAndExact(t *testing.T) {
	l := runs()
	c := with(t, l)
	for _, r := range l {
		f, e, n := r.Who()
		if c.Find(f, e) != r || c.Exact(f, e, n) != r {
			t.Errorf("%q %q %d is another one", f, e, n)
		}
		for _, x := range []int{n - 1, n + 1, 0, -n} {
			if c.Exact(f, e, x) != nil {
				t.Errorf("%q %q %d is there", f, e, x)
			}
		}
	}
	for _, x := range [][2]string{{"e", "f"}, {"g", "a"}, {"f", ""}, {"", "e"}, {"f", "z"}, {"a", "e"}} {
		if c.Find(x[0], x[1]) != nil || c.Exact(x[0], x[1], 1) != nil {
			t.Errorf("%q is there", x)
		}
	}
}

func TestTheRunIsTheObjectItself(t *testing.T) {
	r := run.New("f", "e", 1)
	c := with(t, []*run.Run{r})
	r.Begin(run.Starting, 5)
	if c.Find("f", "e").Phase() != run.Starting || c.All()[0].Phase() != run.Starting {
		t.Error("it is another object")
	}
	c.Exact("f", "e", 1).Hello()
	if r.Phase() != run.Live {
		t.Error("it is another object")
	}
}

func TestDrop(t *testing.T) {
	l := runs()
	c := with(t, l)
	for _, x := range [][2]string{{"e", "f"}, {"f", "z"}, {"", ""}} {
		if c.Drop(x[0], x[1]) {
			t.Errorf("%q was there", x)
		}
	}
	if !c.Drop("g", "e") || c.Drop("g", "e") {
		t.Error("it is not removed once")
	}
	if got := c.All(); !slices.Equal(got, []*run.Run{l[0], l[2], l[3]}) || c.Find("g", "e") != nil {
		t.Error("others were removed")
	}
	if err := c.Add(l[1]); err != api.OK {
		t.Error(err)
	}
	if got := c.All(); !slices.Equal(got, []*run.Run{l[0], l[2], l[3], l[1]}) {
		t.Error("a run that came again is not the last one")
	}
	if !c.Drop("f", "e") || !c.Drop("a", "z") {
		t.Error("they were not there")
	}
	if got := c.All(); !slices.Equal(got, []*run.Run{l[2], l[1]}) {
		t.Error("others were removed")
	}
}

func TestLate(t *testing.T) {
	l := runs()
	c := with(t, l)
	l[0].Begin(run.Starting, 5)
	l[1].Begin(run.Waiting, 3)
	l[2].Begin(run.Waiting, 5)
	l[2].Hello()
	l[3].Begin(run.Starting, 1)
	l[3].Stop(4)
	for now, want := range [][]*run.Run{nil, nil, nil, {l[1]}, {l[1], l[3]}, {l[0], l[1], l[3]}, {l[0], l[1], l[3]}} {
		if got := c.Late(now); !slices.Equal(got, want) {
			t.Errorf("at %d: %d are late", now, len(got))
		}
	}
	if len(c.Late(-1)) != 0 {
		t.Error("before the first tick")
	}
}

func TestMemory(t *testing.T) {
	l := runs()
	c := with(t, l)
	all := c.All()
	all[0], all[3] = nil, nil
	_ = append(all[:1], run.New("w", "w", 1))
	if !slices.Equal(c.All(), l) {
		t.Error("a result shares memory with the crew")
	}
	all = c.All()
	c.Drop("f", "e")
	if !slices.Equal(all, l) {
		t.Error("a result was changed")
	}
	late := c.Late(0)
	c.Add(run.New("w", "w", 1))
	if len(late) != 0 {
		t.Error("a result was changed")
	}
}

func TestMany(t *testing.T) {
	c := crew.New()
	for n := range 300 {
		if c.Add(run.New("f", fmt.Sprint(n), 1)) != api.OK {
			t.Error(n)
		}
	}
	for n := range 300 {
		if n%3 == 0 && !c.Drop("f", fmt.Sprint(n)) {
			t.Error(n)
		}
	}
	if got := len(c.All()); got != 200 {
		t.Error(got)
	}
	for n := range 300 {
		if there := c.Find("f", fmt.Sprint(n)) != nil; there != (n%3 != 0) {
			t.Error(n, there)
		}
	}
}
