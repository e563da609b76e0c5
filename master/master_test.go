package master_test

import (
	"slices"
	"testing"

	"hostler/api"
	"hostler/master"
	"hostler/message"
)

var a, b, c = api.Key{F: "f", T: "a"}, api.Key{F: "f", T: "b"}, api.Key{F: "g", T: "a"}

func status(k api.Key, number, epoch, state int) api.Message {
	return api.Message{Kind: api.Status, F: k.F, T: k.T, Number: number, Epoch: epoch, State: state}
}

func ack(k api.Key, number, epoch int) api.Message {
	return api.Message{Kind: api.Ack, F: k.F, T: k.T, Number: number, Epoch: epoch}
}

// hears checks what the master answers.
func hears(t *testing.T, m *master.Master, x api.Message, want ...api.Message) {
	t.Helper()
	if got := m.Hear(x); !slices.EqualFunc(got, want, message.Same) {
		t.Errorf("%v: %v, not %v", x, got, want)
	}
}

// knows checks what the master has heard of the key.
func knows(t *testing.T, m *master.Master, k api.Key, state int, numbers ...int) {
	t.Helper()
	if got := m.State(k); got != state {
		t.Errorf("%v: state %d, not %d", k, got, state)
	}
	if got := m.Heard(k); !slices.Equal(got, numbers) {
		t.Errorf("%v: %v, not %v", k, got, numbers)
	}
}

func TestANewMaster(t *testing.T) {
	m := master.New()
	knows(t, m, a, 0)
	knows(t, m, api.Key{}, 0)
}

func TestRegister(t *testing.T) {
	m := master.New()
	for epoch := 1; epoch < 4; epoch++ {
		hears(t, m, api.Message{Kind: api.Register, Epoch: epoch}, api.Message{Kind: api.Welcome})
	}
	knows(t, m, a, 0)
}

func TestStatus(t *testing.T) {
	m := master.New()
	hears(t, m, status(a, 1, 1, api.Running), ack(a, 1, 1))
	knows(t, m, a, api.Running, 1)
	hears(t, m, status(a, 1, 1, api.Running), ack(a, 1, 1))
	knows(t, m, a, api.Running, 1)
	hears(t, m, status(c, 1, 1, api.Refused), ack(c, 1, 1))
	hears(t, m, status(a, 1, 2, api.Running), ack(a, 1, 2))
	hears(t, m, status(a, 2, 2, api.Lost), ack(a, 2, 2))
	knows(t, m, a, api.Lost, 1, 2)
	knows(t, m, c, api.Refused, 1)
	knows(t, m, b, 0)
	hears(t, m, status(a, 1, 3, api.Killed), ack(a, 1, 3))
	knows(t, m, a, api.Killed, 1, 2, 1)
	hears(t, m, status(a, 1, 3, api.Failed), ack(a, 1, 3))
	knows(t, m, a, api.Failed, 1, 2, 1)
	hears(t, m, status(a, 7, 3, api.Running), ack(a, 7, 3))
	knows(t, m, a, api.Running, 1, 2, 1, 7)
	hears(t, m, status(b, 5, 9, api.Finished), ack(b, 5, 9))
	knows(t, m, b, api.Finished, 5)
	knows(t, m, c, api.Refused, 1)
}

func TestOtherMessages(t *testing.T) {
	m := master.New()
	hears(t, m, status(a, 1, 1, api.Running), ack(a, 1, 1))
	for kind := -1; kind < 20; kind++ {
		if kind == api.Register || kind == api.Status {
			continue
		}
		hears(t, m, api.Message{Kind: kind, F: "f", E: "e", T: "a", N: 1, State: 4, Number: 2, Epoch: 1, Items: []api.Item{{T: "a", Need: 1}}})
	}
	knows(t, m, a, api.Running, 1)
}

func TestMemory(t *testing.T) {
	m := master.New()
	hears(t, m, status(a, 1, 1, api.Running), ack(a, 1, 1))
	hears(t, m, status(a, 2, 1, api.Lost), ack(a, 2, 1))
	l := m.Heard(a)
	l[0] = 9
	_ = append(l[:1], 8)
	knows(t, m, a, api.Lost, 1, 2)
	l = m.Heard(a)
	hears(t, m, status(a, 3, 1, api.Lost), ack(a, 3, 1))
	if !slices.Equal(l, []int{1, 2}) {
		t.Error("a result was changed")
	}
	m.Hear(api.Message{Kind: api.Register})[0].Kind = 9
	hears(t, m, api.Message{Kind: api.Register}, api.Message{Kind: api.Welcome})
}
