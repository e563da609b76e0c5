package tasks_test

import (
	"slices"
	"testing"

	"hostler/admit"
	"hostler/api"
	"hostler/tasks"
)

// list are some entries.
func list() []admit.Entry {
	return []admit.Entry{
		{F: "f", E: "e", Run: 1, Items: []api.Item{{T: "a", Need: 1 + 2i}, {T: "b", Need: 2}}},
		{F: "g", E: "e", Run: 1, Items: []api.Item{{T: "a", Need: 4}}},
		{F: "f", E: "e", Run: 0, Items: []api.Item{{T: "c", Need: 8}, {T: "d", Need: 16i}}},
		{F: "f", E: "x", Run: 1, Items: []api.Item{{T: "e", Need: 32}}},
		{F: "f", E: "e", Run: 2, Items: []api.Item{{T: "g", Need: 64}}},
		{F: "f", E: "e", Run: 1, Items: []api.Item{{T: "h", Need: 128 + 256i}}},
	}
}

func row(f, e string, n int, t string, need complex128) tasks.Row {
	return tasks.Row{Key: api.Key{F: f, T: t}, E: e, Run: n, Need: need}
}

// all are the rows of list.
func all() []tasks.Row {
	return []tasks.Row{
		row("f", "e", 1, "a", 1+2i), row("f", "e", 1, "b", 2), row("g", "e", 1, "a", 4), row("f", "e", 0, "c", 8), row("f", "e", 0, "d", 16i),
		row("f", "x", 1, "e", 32), row("f", "e", 2, "g", 64), row("f", "e", 1, "h", 128+256i),
	}
}

func is(t *testing.T, what string, got []tasks.Row, want ...tasks.Row) {
	t.Helper()
	if !slices.Equal(got, want) {
		t.Errorf("%s: %v, not %v", what, got, want)
	}
}

// states returns a function that returns these states, and Staging for every other task.
func states(m map[api.Key]int) func(api.Key) int {
	return func(k api.Key) int {
		if s, there := m[k]; there {
			return s
		}
		return api.Staging
	}
}

func TestRows(t *testing.T) {
	is(t, "Rows", tasks.Rows(list()), all()...)
	is(t, "Rows of nothing", tasks.Rows(nil))
	is(t, "Rows without items", tasks.Rows([]admit.Entry{{F: "f", E: "e", Run: 1}}))
}

func TestOf(t *testing.T) {
	r := all()
	is(t, "f e 1", tasks.Of(list(), "f", "e", 1), r[0], r[1], r[7])
	is(t, "f e 2", tasks.Of(list(), "f", "e", 2), r[6])
	is(t, "g e 1", tasks.Of(list(), "g", "e", 1), r[2])
	is(t, "f x 1", tasks.Of(list(), "f", "x", 1), r[5])
	is(t, "f e 3", tasks.Of(list(), "f", "e", 3))
	is(t, "f e -1", tasks.Of(list(), "f", "e", -1))
	is(t, "f y 1", tasks.Of(list(), "f", "y", 1))
	is(t, "e f 1", tasks.Of(list(), "e", "f", 1))
	is(t, "nothing", tasks.Of(nil, "f", "e", 1))
}

func TestOpenAndUsed(t *testing.T) {
	r := all()
	open := []tasks.Row{r[0], r[1], r[2], r[5], r[6], r[7]}
	is(t, "all are staging", tasks.Open(r, states(nil)), open...)
	if got := tasks.Used(r, states(nil)); got != 231+258i {
		t.Error(got)
	}
	for state := -1; state < 10; state++ {
		m := states(map[api.Key]int{{F: "f", T: "b"}: state, {F: "g", T: "a"}: state, {F: "f", T: "c"}: state})
		want, used := open, 231+258i
		if state >= api.Finished && state <= api.Refused {
			want, used = []tasks.Row{r[0], r[5], r[6], r[7]}, 225+258i
		}
		is(t, "some are in another state", tasks.Open(r, m), want...)
		if got := tasks.Used(r, m); got != used {
			t.Errorf("state %d: %v", state, got)
		}
	}
	over := func(api.Key) int { return api.Lost }
	is(t, "all are over", tasks.Open(r, over))
	if got := tasks.Used(r, over); got != 0 {
		t.Error(got)
	}
	is(t, "nothing", tasks.Open(nil, states(nil)))
	if got := tasks.Used(nil, states(nil)); got != 0 {
		t.Error(got)
	}
}

func TestTheStateIsThatOfTheKey(t *testing.T) {
	r := all()
	m := states(map[api.Key]int{{F: "f", T: "a"}: api.Finished})
	is(t, "f a is over, g a is not", tasks.Open(r[:3], m), r[1], r[2])
}

func TestFits(t *testing.T) {
	items := []api.Item{{T: "a", Need: 1 + 2i}, {T: "b", Need: 3}, {T: "c", Need: 5i}}
	for _, r := range []struct {
		used, room complex128
		items      []api.Item
		want       bool
	}{
		{0, 4 + 7i, items, true},
		{0, 3 + 7i, items, false},
		{0, 4 + 6i, items, false},
		{0, 3 + 6i, items, false},
		{10 + 10i, 14 + 17i, items, true},
		{10 + 11i, 14 + 17i, items, false},
		{11 + 10i, 14 + 17i, items, false},
		{1 + 1i, 1 + 1i, nil, true},
		{2, 1 + 1i, nil, false},
		{0, 0, nil, true},
		{0, 0, items[:1], false},
		{0, 100000 + 100000i, items, true},
		{1, 1, []api.Item{{T: "m", Need: 1i}}, false},
	} {
		if got := tasks.Fits(r.used, r.room, r.items); got != r.want {
			t.Errorf("%v and %v in %v: %v", r.used, r.items, r.room, got)
		}
	}
}

func TestMemory(t *testing.T) {
	l, rows := list(), all()
	tasks.Rows(l)[0].E = "q"
	tasks.Of(l, "f", "e", 1)[0].E = "q"
	got := tasks.Open(rows, states(nil))
	got[0].E = "q"
	_ = append(got[:1], tasks.Row{})
	tasks.Fits(1, 1, l[0].Items[:1])
	tasks.Used(rows[:2], states(nil))
	if !slices.Equal(rows, all()) || !slices.Equal(tasks.Rows(l), all()) {
		t.Error("an argument was changed")
	}
}
