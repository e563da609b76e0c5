package stream_test

import (
	"math"
	"slices"
	"testing"

	"hostler/api"
	"hostler/backoff"
	"hostler/stream"
)

// state is what a stream tells about itself.
type state struct {
	updates               []api.Update
	front                 api.Update
	there, said, closed   bool
	state, pending, acked int
}

func of(s *stream.Stream) state {
	u, there := s.Front()
	return state{s.Updates(), u, there, s.Said(), s.Closed(), s.State(), s.Pending(), s.Acked()}
}

func equal(a, b state) bool {
	same := slices.Equal(a.updates, b.updates)
	a.updates, b.updates = nil, nil
	return same && a.front == b.front && a.there == b.there && a.said == b.said && a.closed == b.closed &&
		a.state == b.state && a.pending == b.pending && a.acked == b.acked
}

// is checks what the stream tells: the states that were added, how many are acknowledged, whether the front was said.
func is(t *testing.T, s *stream.Stream, acked int, said bool, states ...int) {
	t.Helper()
	want := state{state: api.Staging, said: said, acked: acked, pending: len(states) - acked}
	for i, x := range states {
		want.updates = append(want.updates, api.Update{Number: i + 1, State: x})
		want.state = x
		want.closed = x >= api.Finished && acked == len(states)
	}
	if acked < len(states) {
		want.front, want.there = want.updates[acked], true
	}
	if got := of(s); !equal(got, want) {
		t.Errorf("%+v, not %+v", got, want)
	}
}

// with returns a stream with these updates.
func with(states ...int) *stream.Stream {
	s := stream.New()
	for _, x := range states {
		s.Add(x)
	}
	return s
}

func TestANewStream(t *testing.T) {
	s := stream.New()
	is(t, s, 0, false)
	if u, ok := s.Front(); ok || u != (api.Update{}) {
		t.Error(u, ok)
	}
	if u, ok := s.Say(1, 1, 0); ok || u != (api.Update{}) {
		t.Error(u, ok)
	}
	if u, ok := s.Again(99, 1, 0); ok || u != (api.Update{}) {
		t.Error(u, ok)
	}
	for n := -1; n < 3; n++ {
		if err := s.Ack(n); err != api.ErrNone {
			t.Error(n, err)
		}
	}
	is(t, s, 0, false)
}

func TestAdd(t *testing.T) {
	s := stream.New()
	for i, r := range []struct {
		state int
		err   api.Errno
	}{{0, api.ErrState}, {api.Staging, api.ErrState}, {8, api.ErrState}, {-1, api.ErrState}, {api.Running, api.OK},
		{api.Running, api.ErrState}, {api.Refused, api.ErrState}, {api.Staging, api.ErrState}, {api.Failed, api.OK}, {api.Lost, api.ErrState}, {api.Running, api.ErrState}} {
		before := of(s)
		u, err := s.Add(r.state)
		if err != r.err {
			t.Error(i, err)
		}
		if err != api.OK && (u != (api.Update{}) || !equal(of(s), before)) {
			t.Error(i, u)
		}
		if n := len(before.updates) + 1; err == api.OK && u != (api.Update{Number: n, State: r.state}) {
			t.Error(i, u)
		}
	}
	is(t, s, 0, false, api.Running, api.Failed)
	for _, x := range []int{api.Running, api.Finished, api.Failed, api.Killed, api.Lost, api.Refused} {
		s := stream.New()
		if u, err := s.Add(x); err != api.OK || u != (api.Update{Number: 1, State: x}) {
			t.Error(x, u, err)
		}
		is(t, s, 0, false, x)
	}
}

func TestSayOnce(t *testing.T) {
	s := with(api.Running, api.Finished)
	u, ok := s.Say(3, 4, 0)
	if !ok || u != (api.Update{Number: 1, State: api.Running}) {
		t.Error(u, ok)
	}
	is(t, s, 0, true, api.Running, api.Finished)
	if u, ok := s.Say(9, 4, 0); ok || u != (api.Update{}) {
		t.Error(u, ok)
	}
	is(t, s, 0, true, api.Running, api.Finished)
}

func TestAck(t *testing.T) {
	s := with(api.Running, api.Finished)
	if err := s.Ack(1); err != api.ErrNone {
		t.Error("it was not said, but:", err)
	}
	is(t, s, 0, false, api.Running, api.Finished)
	s.Say(0, 1, 0)
	for _, n := range []int{0, 2, -1, 3, math.MaxInt, math.MinInt} {
		if err := s.Ack(n); err != api.ErrNone {
			t.Error(n, err)
		}
	}
	is(t, s, 0, true, api.Running, api.Finished)
	if err := s.Ack(1); err != api.OK {
		t.Error(err)
	}
	is(t, s, 1, false, api.Running, api.Finished)
	for _, n := range []int{1, 2} {
		if err := s.Ack(n); err != api.ErrNone {
			t.Error("the next one was not said, but:", n, err)
		}
	}
	if u, ok := s.Again(99, 1, 0); ok || u != (api.Update{}) {
		t.Error("the next one was not said, but:", u, ok)
	}
	if u, ok := s.Say(5, 1, 0); !ok || u != (api.Update{Number: 2, State: api.Finished}) {
		t.Error(u, ok)
	}
	if err := s.Ack(1); err != api.ErrNone {
		t.Error(err)
	}
	if err := s.Ack(2); err != api.OK {
		t.Error(err)
	}
	is(t, s, 2, false, api.Running, api.Finished)
	if err := s.Ack(2); err != api.ErrNone {
		t.Error(err)
	}
	if err := s.Ack(3); err != api.ErrNone {
		t.Error(err)
	}
	if u, ok := s.Say(9, 1, 0); ok || u != (api.Update{}) {
		t.Error(u, ok)
	}
}

func TestClosed(t *testing.T) {
	s := with(api.Running)
	s.Say(0, 1, 0)
	s.Ack(1)
	is(t, s, 1, false, api.Running)
	s.Add(api.Killed)
	is(t, s, 1, false, api.Running, api.Killed)
	s.Say(0, 1, 0)
	is(t, s, 1, true, api.Running, api.Killed)
	s.Ack(2)
	is(t, s, 2, false, api.Running, api.Killed)
	if !s.Closed() {
		t.Error("all is over")
	}
}

func TestAddBehindWhatIsSaid(t *testing.T) {
	s := with(api.Running)
	s.Say(2, 5, 0)
	s.Add(api.Lost)
	is(t, s, 0, true, api.Running, api.Lost)
	if u, ok := s.Again(7, 9, 0); !ok || u.Number != 1 {
		t.Error(u, ok)
	}
}

// dueAt checks that the front is due at the tick, and not before.
func dueAt(t *testing.T, s *stream.Stream, tick int) {
	t.Helper()
	if u, ok := s.Clone().Again(tick-1, 5, 0); ok || u != (api.Update{}) {
		t.Errorf("due before %d", tick)
	}
	front, _ := s.Front()
	if u, ok := s.Clone().Again(tick, 5, 0); !ok || u != front {
		t.Errorf("not due at %d: %v", tick, u)
	}
	if _, ok := s.Clone().Again(tick+100, 5, 0); !ok {
		t.Errorf("not due behind %d", tick)
	}
}

func TestDelays(t *testing.T) {
	for _, first := range []int{1, 2, 3, 5, 8, 100, 0, -4, 1000} {
		for _, draw := range []int{0, 1, 2, 7, -1} {
			for _, most := range []int{1, 6, 7, 1000, 0, math.MaxInt} {
				s := with(api.Running)
				s.Say(10, first, draw)
				due, delay := backoff.Due(10, first, draw), first
				for i := range 6 {
					dueAt(t, s, due)
					now := due + i%3
					if u, ok := s.Again(now, most, draw+i); !ok || u != (api.Update{Number: 1, State: api.Running}) {
						t.Error(u, ok)
					}
					delay = backoff.Next(delay, most)
					due = backoff.Due(now, delay, draw+i)
				}
			}
		}
	}
}

func TestTheNextFrontBeginsAgain(t *testing.T) {
	s := with(api.Running, api.Lost)
	s.Say(0, 4, 0)
	s.Again(4, 100, 0)
	s.Again(12, 100, 0)
	dueAt(t, s, 28)
	s.Ack(1)
	s.Say(13, 2, 0)
	dueAt(t, s, 15)
	if u, ok := s.Again(15, 100, 0); !ok || u != (api.Update{Number: 2, State: api.Lost}) {
		t.Error(u, ok)
	}
	dueAt(t, s, 19)
}

func TestNotAgainIsNoChange(t *testing.T) {
	s := with(api.Running)
	s.Say(0, 8, 0)
	for now := range 8 {
		if _, ok := s.Again(now, 100, 0); ok {
			t.Error(now)
		}
	}
	s.Again(8, 100, 0)
	dueAt(t, s, 24)
}

func TestClone(t *testing.T) {
	s := with(api.Running)
	s.Say(0, 4, 0)
	x := s.Clone()
	if !equal(of(s), of(x)) {
		t.Error("a clone has another state")
	}
	dueAt(t, x, 4)
	x.Ack(1)
	x.Add(api.Finished)
	is(t, s, 0, true, api.Running)
	s.Add(api.Failed)
	is(t, s, 0, true, api.Running, api.Failed)
	is(t, x, 1, false, api.Running, api.Finished)
	x.Say(1, 1, 0)
	dueAt(t, s, 4)
	s.Again(4, 100, 0)
	dueAt(t, x, 2)
}

func TestMemory(t *testing.T) {
	s := with(api.Running, api.Finished)
	l := s.Updates()
	l[0].State = 99
	_ = append(l[:1], api.Update{Number: 77})
	is(t, s, 0, false, api.Running, api.Finished)
	s = with(api.Running)
	l = s.Updates()
	s.Add(api.Lost)
	if !slices.Equal(l, []api.Update{{Number: 1, State: api.Running}}) {
		t.Error(l)
	}
}
