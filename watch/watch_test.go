package watch_test

import (
	"slices"
	"testing"

	"hostler/api"
	"hostler/play"
	"hostler/watch"
	"hostler/world"
)

var a, b, c = api.Key{F: "f", T: "a"}, api.Key{F: "f", T: "b"}, api.Key{F: "g", T: "a"}

func said(l ...api.Message) []world.Said {
	var r []world.Said
	for i, m := range l {
		r = append(r, world.Said{Message: m, Epoch: 1, Now: i})
	}
	return r
}

func status(k api.Key, number, state int) api.Message {
	return api.Message{Kind: api.Status, F: k.F, T: k.T, Number: number, Epoch: 1, State: state}
}

func launch(k api.Key, e string, n int, need complex128) api.Message {
	return api.Message{Kind: api.Launch, F: k.F, E: e, N: n, Items: []api.Item{{T: k.T, Need: need}}}
}

// others are messages that are neither a Status nor a Launch.
var others = []api.Message{
	{Kind: api.Register, Epoch: 1}, {Kind: api.Answer, F: "f", T: "a", State: api.Lost}, {Kind: api.Start, F: "f", E: "e", N: 1},
	{Kind: api.End, F: "f", E: "e", N: 1, T: "a"}, {Kind: api.Stop, F: "f", E: "e", N: 1}, {Kind: api.Destroy, F: "f", E: "e", N: 1},
	{Kind: api.Ack, F: "f", T: "a", Number: 7, Epoch: 1}, {Kind: api.Report, F: "f", E: "e", N: 1, T: "a", State: 2},
	{Kind: api.Ask, F: "f", Items: []api.Item{{T: "a"}}}, {Kind: api.Run, F: "f", E: "z", Items: []api.Item{{T: "a", Need: 9}}},
}

func TestSent(t *testing.T) {
	l := said(status(a, 1, 2), status(c, 5, 2), status(a, 1, 2), status(b, 1, 2), others[1], status(a, 2, 3), status(c, 5, 2), status(a, 2, 3), others[6], status(a, 1, 2), status(a, 3, 1), status(a, 3, 1), status(a, 3, 2))
	for k, want := range map[api.Key][]int{a: {1, 2, 1, 3}, b: {1}, c: {5}, {F: "f", T: "z"}: nil, {F: "a", T: "f"}: nil, {}: nil} {
		if got := watch.Sent(l, k); !slices.Equal(got, want) {
			t.Errorf("%v: %v", k, got)
		}
	}
	if got := watch.Sent(nil, a); len(got) != 0 {
		t.Error(got)
	}
	if got := watch.Sent(said(launch(a, "e", 1, 1)), a); len(got) != 0 {
		t.Error(got)
	}
}

func TestStreams(t *testing.T) {
	for i, r := range []struct {
		l    []api.Message
		want bool
	}{
		{nil, true},
		{others, true},
		{[]api.Message{status(a, 1, api.Running)}, true},
		{[]api.Message{status(a, 1, api.Refused)}, true},
		{[]api.Message{status(a, 1, api.Running), status(a, 2, api.Lost)}, true},
		{[]api.Message{status(a, 1, 2), status(a, 1, 2), status(a, 2, 3), status(a, 2, 3), status(a, 2, 3)}, true},
		{[]api.Message{status(a, 1, 2), status(b, 1, 3), status(c, 1, 4), status(a, 2, 3), status(b, 1, 3), status(c, 1, 4)}, true},
		{[]api.Message{status(a, 2, api.Running)}, false},
		{[]api.Message{status(a, 2, api.Running), status(a, 1, api.Running)}, false},
		{[]api.Message{status(a, 1, api.Running), status(a, 3, api.Lost)}, false},
		{[]api.Message{status(a, 1, 2), status(a, 2, 3), status(a, 1, 2)}, false},
		{[]api.Message{status(a, 1, 2), status(a, 2, 3), status(a, 1, 2), status(a, 2, 3)}, false},
		{[]api.Message{status(a, 1, api.Running), status(a, 1, api.Lost)}, false},
		{[]api.Message{status(a, 1, 2), status(a, 2, 3), status(a, 2, 4)}, false},
		{[]api.Message{status(a, 1, api.Staging)}, false},
		{[]api.Message{status(a, 1, api.Running), status(a, 2, api.Running)}, false},
		{[]api.Message{status(a, 1, api.Running), status(a, 2, api.Refused)}, false},
		{[]api.Message{status(a, 1, api.Finished), status(a, 2, api.Lost)}, false},
		{[]api.Message{status(a, 1, api.Running), status(a, 2, api.Killed), status(a, 3, api.Lost)}, false},
		{[]api.Message{status(a, 1, 2), status(b, 1, 2), status(c, 2, 2)}, false},
		{[]api.Message{status(a, 1, 2), status(b, 1, 2), status(c, 1, 1)}, false},
		{[]api.Message{status(c, 2, 2), status(a, 1, 2), status(b, 1, 2)}, false},
		{[]api.Message{others[0], status(a, 1, 2), others[1], status(a, 2, 5), others[2], launch(a, "e", 1, 1)}, true},
	} {
		if got := watch.Streams(said(r.l...)); got != r.want {
			t.Errorf("%d: %v", i, got)
		}
	}
}

func TestTheEpochMayChange(t *testing.T) {
	m := status(a, 1, 2)
	m.Epoch = 2
	if !watch.Streams(said(status(a, 1, 2), m, status(a, 2, 3))) {
		t.Error("a repetition in another life is one")
	}
}

func TestLaunches(t *testing.T) {
	good := launch(a, "e", 1, 2+3i)
	for i, r := range []struct {
		l    []api.Message
		want bool
	}{
		{nil, true},
		{others, true},
		{[]api.Message{good}, true},
		{[]api.Message{good, good, others[0], good}, true},
		{[]api.Message{others[8], good, others[9], good}, true},
		{[]api.Message{good, launch(b, "e", 2, 1), launch(c, "x", 7, 5), good, launch(c, "x", 7, 5)}, true},
		{[]api.Message{good, launch(a, "x", 1, 2+3i)}, false},
		{[]api.Message{good, launch(a, "e", 2, 2+3i)}, false},
		{[]api.Message{good, launch(a, "e", 1, 2+2i)}, false},
		{[]api.Message{good, launch(b, "e", 1, 1), good, launch(b, "e", 1, 2)}, false},
		{[]api.Message{launch(b, "e", 1, 1), good, good, launch(a, "e", 3, 2+3i)}, false},
		{[]api.Message{good, launch(a, "e", 2, 2+3i), good}, false},
		{[]api.Message{good, status(a, 5, 5)}, true},
	} {
		if got := watch.Launches(said(r.l...)); got != r.want {
			t.Errorf("%d: %v", i, got)
		}
	}
}

func TestArgumentsAreLeftAlone(t *testing.T) {
	l := said(status(a, 1, 2), launch(a, "e", 1, 1), status(a, 2, 3))
	room := append(l, said(status(a, 9, 9))...)
	watch.Sent(room[:3], a)[0] = 7
	if !watch.Streams(room[:3]) || !watch.Launches(room[:3]) || room[0].Message.Number != 1 || room[3].Message.Number != 9 {
		t.Error("memory beyond the length was used, or changed")
	}
}

func TestSound(t *testing.T) {
	p, err := play.New(api.Config{Room: 10 + 10i, Wait: 5, Window: 7, Keep: 8, First: 2, Most: 8, Quota: 8000})
	if err != api.OK {
		t.Fatal(err)
	}
	if !watch.Sound(p.World()) {
		t.Error("nothing was said")
	}
	p.Round(0)
	for i, e := range []string{"e", "x", "e", "y"} {
		p.Tell(api.Message{Kind: api.Run, F: "f", E: e, Items: []api.Item{{T: string(rune('a' + i)), Need: 1}}})
		p.Round(i)
		if i == 2 {
			p.Crash(0, -1)
		}
	}
	for range 30 {
		p.Round(0)
	}
	if !p.Quiet() || !watch.Sound(p.World()) {
		t.Error("it is not sound")
	}
	if got := watch.Sent(p.World().Said(), a); !slices.Equal(got, []int{1, 2}) {
		t.Error(got)
	}
}

func TestAWorldThatIsNotSound(t *testing.T) {
	w, err := world.New(api.Config{Room: 10, Wait: 5, Window: 7, Keep: 8, First: 2, Most: 8, Quota: 8000})
	if err != api.OK {
		t.Fatal(err)
	}
	run := func(e, task string) api.Message {
		return api.Message{Kind: api.Run, F: "f", E: e, Items: []api.Item{{T: task, Need: 1}}}
	}
	hello := func(e string) api.Message { return api.Message{Kind: api.Hello, F: "f", E: e, N: 1} }
	w.Tell(api.Message{Kind: api.Welcome})
	w.Tell(run("e", "a"))
	old := w.Agent()
	w.Crash(0, -1)
	w.Tell(api.Message{Kind: api.Welcome})
	w.Tell(run("x", "b"))
	w.Tell(hello("x"))
	if !watch.Sound(w) {
		t.Error("it is not sound")
	}
	// The agent of a life that has ended gives the task away once more.
	old.Do(run("e", "b"))
	w.Crash(0, -1)
	w.Tell(hello("e"))
	if watch.Sound(w) {
		t.Error("a task was handed to two runs")
	}
}
