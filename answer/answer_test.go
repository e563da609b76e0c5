package answer_test

import (
	"slices"
	"testing"

	"hostler/admit"
	"hostler/answer"
	"hostler/api"
	"hostler/message"
)

var list = []admit.Entry{
	{F: "f", E: "e", Run: 1, Items: []api.Item{{T: "b", Need: 1}, {T: "a", Need: 2}}},
	{F: "g", E: "e", Run: 1, Items: []api.Item{{T: "a", Need: 4}}},
	{F: "f", E: "x", Run: 0, Items: []api.Item{{T: "c", Need: 8}}},
	{F: "f", E: "e", Run: 2, Items: []api.Item{{T: "d", Need: 8}}},
}

// state returns another state for each task.
func state(k api.Key) int {
	switch k {
	case api.Key{F: "f", T: "a"}:
		return api.Running
	case api.Key{F: "f", T: "b"}:
		return api.Finished
	case api.Key{F: "f", T: "c"}:
		return api.Refused
	case api.Key{F: "f", T: "d"}:
		return api.Staging
	case api.Key{F: "g", T: "a"}:
		return api.Killed
	}
	return api.Failed
}

func is(t *testing.T, what string, got []api.Message, want ...api.Message) {
	t.Helper()
	if !slices.EqualFunc(got, want, message.Same) {
		t.Errorf("%s: %v, not %v", what, got, want)
	}
}

func one(f, t string, state int) api.Message {
	return api.Message{Kind: api.Answer, F: f, T: t, State: state}
}

func items(names ...string) []api.Item {
	var l []api.Item
	for _, s := range names {
		l = append(l, api.Item{T: s})
	}
	return l
}

func TestWithoutItems(t *testing.T) {
	is(t, "f", answer.Of(list, "f", nil, state), one("f", "b", api.Finished), one("f", "a", api.Running), one("f", "c", api.Refused), one("f", "d", api.Staging))
	is(t, "f", answer.Of(list, "f", []api.Item{}, state), one("f", "b", api.Finished), one("f", "a", api.Running), one("f", "c", api.Refused), one("f", "d", api.Staging))
	is(t, "g", answer.Of(list, "g", nil, state), one("g", "a", api.Killed))
	is(t, "h", answer.Of(list, "h", nil, state))
	is(t, "e", answer.Of(list, "e", nil, state))
	is(t, "nothing", answer.Of(nil, "f", nil, state))
}

func TestWithItems(t *testing.T) {
	is(t, "some", answer.Of(list, "f", items("d", "a"), state), one("f", "d", api.Staging), one("f", "a", api.Running))
	is(t, "one that was refused", answer.Of(list, "f", items("c"), state), one("f", "c", api.Refused))
	is(t, "some that are not there", answer.Of(list, "f", items("z", "b", "y"), state), one("f", "z", api.Lost), one("f", "b", api.Finished), one("f", "y", api.Lost))
	is(t, "of another framework", answer.Of(list, "g", items("a", "b"), state), one("g", "a", api.Killed), one("g", "b", api.Lost))
	is(t, "of no framework", answer.Of(list, "h", items("a"), state), one("h", "a", api.Lost))
	is(t, "one twice", answer.Of(list, "f", items("a", "a"), state), one("f", "a", api.Running), one("f", "a", api.Running))
	is(t, "of no entries", answer.Of(nil, "f", items("a"), state), one("f", "a", api.Lost))
}

func TestMemory(t *testing.T) {
	room := items("a", "b", "c")
	got := answer.Of(list, "f", room[:1], state)
	got[0].T = "q"
	if len(got) != 1 || room[0].T != "a" || room[1].T != "b" {
		t.Error("the argument was changed")
	}
}
