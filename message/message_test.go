package message_test

import (
	"bytes"
	"math"
	"slices"
	"strings"
	"testing"

	"hostler/api"
	"hostler/message"
)

const highest = 1<<31 - 1

var fields = map[int]string{
	api.Run: "FEI", api.Kill: "FT", api.Shut: "F", api.Ack: "FTUP", api.Ask: "FI", api.Welcome: "",
	api.Hello: "FEN", api.Report: "FENTS", api.Gone: "FEN", api.Register: "P", api.Status: "FTUPS",
	api.Answer: "FTS", api.Start: "FEN", api.Launch: "FENI", api.End: "FENT", api.Stop: "FEN", api.Destroy: "FEN",
}

// one returns a valid message of the kind, and its bytes.
func one(kind int) (api.Message, []byte) {
	m := api.Message{Kind: kind}
	b := []byte{byte(kind)}
	for _, c := range fields[kind] {
		switch c {
		case 'F':
			m.F, b = "fr", append(b, 2, 'f', 'r')
		case 'E':
			m.E, b = "e", append(b, 1, 'e')
		case 'T':
			m.T, b = "t01", append(b, 3, 't', '0', '1')
		case 'N':
			m.N, b = 3, append(b, 3)
		case 'S':
			m.State, b = api.Killed, append(b, 5)
		case 'U':
			m.Number, b = 300, append(b, 0xac, 0x02)
		case 'P':
			m.Epoch, b = 7, append(b, 7)
		case 'I':
			switch kind {
			case api.Run:
				m.Items = []api.Item{{T: "a", Need: 2 + 3i}, {T: "bb", Need: 1000}}
				b = append(b, 2, 1, 'a', 2, 3, 2, 'b', 'b', 0xe8, 0x07, 0)
			case api.Launch:
				m.Items = []api.Item{{T: "a", Need: 1000i}}
				b = append(b, 1, 1, 'a', 0, 0xe8, 0x07)
			case api.Ask:
				m.Items = []api.Item{{T: "a"}, {T: "b"}}
				b = append(b, 2, 1, 'a', 0, 0, 1, 'b', 0, 0)
			}
		}
	}
	return m, b
}

func TestFields(t *testing.T) {
	for kind, want := range fields {
		if got := message.Fields(kind); got != want {
			t.Errorf("kind %d: %q", kind, got)
		}
	}
	for _, kind := range []int{0, -1, 18, 19, 255, 256, 257, math.MinInt, math.MaxInt} {
		if got := message.Fields(kind); got != "?" {
			t.Errorf("kind %d: %q", kind, got)
		}
	}
}

func TestOneOfEachKind(t *testing.T) {
	for kind := range fields {
		m, b := one(kind)
		if err := message.Check(m); err != api.OK {
			t.Errorf("kind %d: Check %d", kind, err)
		}
		if got, err := message.Pack(m); err != api.OK || !bytes.Equal(got, b) {
			t.Errorf("kind %d: Pack % x, %d", kind, got, err)
		}
		if got, err := message.Unpack(b); err != api.OK || !message.Same(got, m) {
			t.Errorf("kind %d: Unpack %v, %d", kind, got, err)
		}
	}
	if b, err := message.Pack(api.Message{Kind: api.Welcome}); err != api.OK || !bytes.Equal(b, []byte{6}) {
		t.Errorf("Welcome: % x, %d", b, err)
	}
}

// refused checks that the message is not valid.
func refused(t *testing.T, m api.Message, why string) {
	t.Helper()
	if err := message.Check(m); err != api.ErrArg {
		t.Errorf("%s: %v: Check %d", why, m, err)
	}
	if b, err := message.Pack(m); err != api.ErrArg || len(b) != 0 {
		t.Errorf("%s: %v: Pack % x, %d", why, m, b, err)
	}
}

func accepted(t *testing.T, m api.Message, why string) {
	t.Helper()
	if err := message.Check(m); err != api.OK {
		t.Errorf("%s: %v: Check %d", why, m, err)
	}
	b, err := message.Pack(m)
	if err != api.OK {
		t.Errorf("%s: %v: Pack %d", why, m, err)
	}
	if back, err := message.Unpack(b); err != api.OK || !message.Same(back, m) {
		t.Errorf("%s: %v: Unpack %v, %d", why, m, back, err)
	}
}

func TestNoSuchKind(t *testing.T) {
	for _, kind := range []int{0, -1, 18, 256 + api.Welcome, math.MaxInt, math.MinInt} {
		refused(t, api.Message{Kind: kind}, "no such kind")
	}
}

func TestFieldsThatAreNotUsed(t *testing.T) {
	for kind, used := range fields {
		for _, c := range "FETNSUPI" {
			m, _ := one(kind)
			switch c {
			case 'F':
				m.F = "x"
			case 'E':
				m.E = "x"
			case 'T':
				m.T = "x"
			case 'N':
				m.N = 1
			case 'S':
				m.State = 1
			case 'U':
				m.Number = 1
			case 'P':
				m.Epoch = 1
			case 'I':
				m.Items = []api.Item{{T: "x", Need: 0}}
				if kind == api.Run || kind == api.Launch {
					m.Items[0].Need = 1
				}
			}
			if strings.ContainsRune(used, c) {
				accepted(t, m, "a field "+string(c)+" that is used")
			} else {
				refused(t, m, "a field "+string(c)+" that is not used")
			}
		}
		m, _ := one(kind)
		if !strings.Contains(used, "I") {
			m.Items = []api.Item{}
			accepted(t, m, "an empty list")
			m.Items = []api.Item{{}}
			refused(t, m, "a list with an empty item")
		}
		if !strings.Contains(used, "N") {
			m, _ = one(kind)
			m.N = -1
			refused(t, m, "a negative N that is not used")
		}
	}
}

func TestStringsThatAreUsed(t *testing.T) {
	for kind, used := range fields {
		for _, c := range "FET" {
			if !strings.ContainsRune(used, c) {
				continue
			}
			for s, right := range map[string]bool{"": false, "A": false, "a b": false, "abcdefgh": true, "abcdefghi": false, "0": true, "\xff": false} {
				m, _ := one(kind)
				switch c {
				case 'F':
					m.F = s
				case 'E':
					m.E = s
				case 'T':
					m.T = s
				}
				if right {
					accepted(t, m, "a name")
				} else {
					refused(t, m, "no name")
				}
			}
		}
	}
}

func TestNumbersThatAreUsed(t *testing.T) {
	for kind, used := range fields {
		for _, c := range "NUP" {
			if !strings.ContainsRune(used, c) {
				continue
			}
			for n, right := range map[int]bool{0: false, -1: false, 1: true, highest: true, highest + 1: false, math.MinInt: false, math.MaxInt: false, 1<<32 + 1: false} {
				m, _ := one(kind)
				switch c {
				case 'N':
					m.N = n
				case 'U':
					m.Number = n
				case 'P':
					m.Epoch = n
				}
				if right {
					accepted(t, m, "a number")
				} else {
					refused(t, m, "no number")
				}
			}
		}
	}
}

func TestStatesThatAreUsed(t *testing.T) {
	for _, kind := range []int{api.Report, api.Status, api.Answer} {
		for state := -1; state <= 9; state++ {
			m, _ := one(kind)
			m.State = state
			if state >= api.Staging && state <= api.Refused {
				accepted(t, m, "a state")
			} else {
				refused(t, m, "no state")
			}
		}
	}
}

// items returns n items with this need.
func items(n int, z complex128) []api.Item {
	var l []api.Item
	for i := range n {
		l = append(l, api.Item{T: string(rune('a' + i)), Need: z})
	}
	return l
}

func TestHowManyItems(t *testing.T) {
	for n := range 8 {
		for kind, right := range map[int]bool{api.Run: n >= 1 && n <= 4, api.Launch: n == 1, api.Ask: n <= 4} {
			m, _ := one(kind)
			m.Items = items(n, 1)
			if kind == api.Ask {
				m.Items = items(n, 0)
			}
			if right {
				accepted(t, m, "so many items")
			} else {
				refused(t, m, "so many items")
			}
		}
	}
}

func TestNeedsOfItems(t *testing.T) {
	nan, inf, minus0 := math.NaN(), math.Inf(1), math.Copysign(0, -1)
	for _, kind := range []int{api.Run, api.Launch} {
		for _, r := range []struct {
			z     complex128
			right bool
		}{{1, true}, {1i, true}, {1000 + 1000i, true}, {complex(1, minus0), true}, {0, false}, {complex(minus0, minus0), false}, {1001, false}, {1 + 1001i, false}, {-1, false}, {0.5, false}, {complex(nan, 1), false}, {complex(1, inf), false}} {
			m, _ := one(kind)
			m.Items[len(m.Items)-1].Need = r.z
			if r.right {
				accepted(t, m, "a need")
			} else {
				refused(t, m, "no need")
			}
		}
	}
	for _, z := range []complex128{1, 1i, -1, complex(nan, 0), complex(0, inf), 0.5i} {
		m, _ := one(api.Ask)
		m.Items[1].Need = z
		refused(t, m, "an Ask with a need")
	}
	m, _ := one(api.Ask)
	m.Items[1].Need = complex(minus0, minus0)
	accepted(t, m, "the sign of zero does not matter")
}

func TestNamesOfItems(t *testing.T) {
	for _, kind := range []int{api.Run, api.Launch, api.Ask} {
		for _, s := range []string{"", "A", "abcdefghi", "a b"} {
			m, _ := one(kind)
			m.Items[len(m.Items)-1].T = s
			refused(t, m, "an item without a name")
		}
		if m, _ := one(kind); len(m.Items) > 1 {
			m.Items[1].T = m.Items[0].T
			refused(t, m, "an item twice")
		}
	}
}

func TestUnpackOfNoMessage(t *testing.T) {
	bad := [][]byte{nil, {}, {0}, {18}, {255}, {6, 0}, {6, 6},
		{api.Register}, {api.Register, 0}, {api.Register, 0x81, 0}, {api.Register, 0x80, 0x80, 0x80, 0x80, 0x08},
		{api.Register, 0xff, 0xff, 0xff, 0xff, 0x7f}, {api.Register, 1, 1},
		{api.Shut, 0}, {api.Shut, 1, 'A'}, {api.Shut, 2, 'a'}, {api.Shut, 9, 'a', 'b', 'c', 'd', 'e', 'f', 'g', 'h', 'i'},
		{api.Ask, 1, 'f', 1, 1, 'a', 1, 0}, {api.Ask, 1, 'f', 1, 1, 'a', 0}, {api.Ask, 1, 'f', 0, 0},
		{api.Ask, 1, 'f', 1, 1, 'a', 0xc0, 0x9a, 0x0c, 0}, {api.Ask, 1, 'f', 1, 1, 'a', 0, 0xc0, 0x9a, 0x0c},
		{api.Ask, 1, 'f', 2, 1, 'a', 0, 0, 1, 'a', 0, 0},
		{api.Ask, 1, 'f', 5, 1, 'a', 0, 0, 1, 'b', 0, 0, 1, 'c', 0, 0, 1, 'd', 0, 0},
		{api.Ask, 1, 'f', 5, 1, 'a', 0, 0, 1, 'b', 0, 0, 1, 'c', 0, 0, 1, 'd', 0, 0, 1, 'e', 0, 0},
		{api.Ask, 1, 'f', 0xff, 0xff, 0xff, 0xff, 0x7f},
		{api.Run, 1, 'f', 1, 'e', 0}, {api.Run, 1, 'f', 1, 'e', 1, 1, 'a', 0, 0}, {api.Run, 1, 'f', 1, 'e', 1, 1, 'a', 0xe9, 0x07, 0},
		{api.Run, 1, 'f', 1, 'e', 0xff, 0xff, 0xff, 0xff, 0x7f, 1, 'a', 1, 1},
		{api.Run, 1, 'f', 1, 'e', 1, 1, 'a', 0xff, 0xff, 0xff, 0xff, 0x7f, 1},
		{api.Launch, 1, 'f', 1, 'e', 1, 2, 1, 'a', 1, 1, 1, 'b', 1, 1},
		{api.Answer, 1, 'f', 1, 't', 0}, {api.Answer, 1, 'f', 1, 't', 8},
	}
	for _, b := range bad {
		if m, err := message.Unpack(b); err != api.ErrForm || !message.Same(m, api.Message{}) {
			t.Errorf("% x: %v, %d", b, m, err)
		}
	}
}

func TestUnpackOfPiecesAndOfChangedBytes(t *testing.T) {
	for kind := range fields {
		_, b := one(kind)
		for n := range b {
			if m, err := message.Unpack(b[:n]); err != api.ErrForm || !message.Same(m, api.Message{}) {
				t.Errorf("% x: %v, %d", b[:n], m, err)
			}
		}
		if _, err := message.Unpack(append(bytes.Clone(b), 0)); err != api.ErrForm {
			t.Errorf("% x and a byte: %d", b, err)
		}
		for i := range b {
			for c := range 256 {
				x := bytes.Clone(b)
				x[i] = byte(c)
				m, err := message.Unpack(x)
				if err == api.OK {
					if back, e := message.Pack(m); e != api.OK || !bytes.Equal(back, x) {
						t.Errorf("% x: %v, which is % x", x, m, back)
					}
				} else if err != api.ErrForm || !message.Same(m, api.Message{}) {
					t.Errorf("% x: %v, %d", x, m, err)
				}
			}
		}
	}
}

func TestSame(t *testing.T) {
	full := api.Message{Kind: 1, F: "f", E: "e", T: "t", N: 1, State: 2, Number: 3, Epoch: 4, Items: items(2, 1)}
	other := full
	other.Items = items(2, 1)
	if !message.Same(full, other) {
		t.Error("equal messages")
	}
	if !message.Same(api.Message{}, api.Message{Items: []api.Item{}}) {
		t.Error("nil and an empty list")
	}
	if !message.Same(api.Message{Items: []api.Item{{Need: complex(math.Copysign(0, -1), 0)}}}, api.Message{Items: []api.Item{{}}}) {
		t.Error("the sign of zero")
	}
	for i, change := range []func(m *api.Message){
		func(m *api.Message) { m.Kind++ },
		func(m *api.Message) { m.F += "x" },
		func(m *api.Message) { m.E += "x" },
		func(m *api.Message) { m.T += "x" },
		func(m *api.Message) { m.N++ },
		func(m *api.Message) { m.State++ },
		func(m *api.Message) { m.Number++ },
		func(m *api.Message) { m.Epoch++ },
		func(m *api.Message) { m.Items = nil },
		func(m *api.Message) { m.Items = m.Items[:1] },
		func(m *api.Message) { m.Items = append(m.Items, api.Item{}) },
		func(m *api.Message) { m.Items[1].T = "x" },
		func(m *api.Message) { m.Items[1].Need = 2 },
		func(m *api.Message) { m.Items[0].Need = 1 + 1i },
		func(m *api.Message) { slices.Reverse(m.Items) },
	} {
		x := full
		x.Items = slices.Clone(full.Items)
		change(&x)
		if message.Same(full, x) || message.Same(x, full) {
			t.Errorf("change %d is not seen", i)
		}
	}
}

func TestMemory(t *testing.T) {
	m, b := one(api.Run)
	room := append(slices.Clone(m.Items), api.Item{T: "rest", Need: 9})
	m.Items = room[:2]
	before := slices.Clone(room)
	if message.Check(m) != api.OK {
		t.Error("memory beyond the length was read")
	}
	got, _ := message.Pack(m)
	if !bytes.Equal(got, b) || !slices.Equal(room, before) {
		t.Error("the argument was changed")
	}
	c := append(bytes.Clone(b), 77)
	m, _ = message.Unpack(c[:len(b)])
	if c[len(b)] != 77 || !bytes.Equal(c[:len(b)], b) {
		t.Error("the argument was changed")
	}
	m.Items[0].T = "x"
	again, err := message.Unpack(b)
	if err != api.OK || again.Items[0].T != "a" {
		t.Error("a result is not new memory")
	}
}
