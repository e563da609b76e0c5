package admit_test

import (
	"bytes"
	"fmt"
	"math"
	"slices"
	"testing"

	"hostler/admit"
	"hostler/api"
)

// entry returns a valid entry.
func entry() admit.Entry {
	return admit.Entry{F: "fr", E: "e", Run: 3, Items: []api.Item{{T: "a", Need: 2 + 3i}, {T: "bb", Need: 1000i}}}
}

// packed are the bytes of that entry.
var packed = []byte{2, 'f', 'r', 1, 'e', 3, 2, 1, 'a', 2, 3, 2, 'b', 'b', 0, 0xe8, 0x07}

func same(a, b admit.Entry) bool {
	return a.F == b.F && a.E == b.E && a.Run == b.Run && slices.Equal(a.Items, b.Items)
}

func TestPack(t *testing.T) {
	if b, err := admit.Pack(entry()); err != api.OK || !bytes.Equal(b, packed) {
		t.Errorf("% x, %d", b, err)
	}
	if e, err := admit.Unpack(packed); err != api.OK || !same(e, entry()) {
		t.Errorf("%v, %d", e, err)
	}
	refused := admit.Entry{F: "f", E: "e", Items: []api.Item{{T: "t", Need: 1}}}
	if b, err := admit.Pack(refused); err != api.OK || !bytes.Equal(b, []byte{1, 'f', 1, 'e', 0, 1, 1, 't', 1, 0}) {
		t.Errorf("% x, %d", b, err)
	}
}

func TestCheck(t *testing.T) {
	four := []api.Item{{T: "a", Need: 1}, {T: "b", Need: 1}, {T: "c", Need: 1}, {T: "d", Need: 1000 + 1000i}}
	for i, r := range []struct {
		change func(e *admit.Entry)
		right  bool
	}{
		{func(e *admit.Entry) {}, true},
		{func(e *admit.Entry) { e.Run = 0 }, true},
		{func(e *admit.Entry) { e.Run = 1 }, true},
		{func(e *admit.Entry) { e.Run = api.MaxAdmit }, true},
		{func(e *admit.Entry) { e.Run = api.MaxAdmit + 1 }, false},
		{func(e *admit.Entry) { e.Run = -1 }, false},
		{func(e *admit.Entry) { e.Run = math.MaxInt }, false},
		{func(e *admit.Entry) { e.Run = math.MinInt }, false},
		{func(e *admit.Entry) { e.F = "" }, false},
		{func(e *admit.Entry) { e.F = "F" }, false},
		{func(e *admit.Entry) { e.F = "abcdefghi" }, false},
		{func(e *admit.Entry) { e.F = "abcdefgh" }, true},
		{func(e *admit.Entry) { e.E = "" }, false},
		{func(e *admit.Entry) { e.E = "a b" }, false},
		{func(e *admit.Entry) { e.E = "00000000" }, true},
		{func(e *admit.Entry) { e.Items = nil }, false},
		{func(e *admit.Entry) { e.Items = e.Items[:1] }, true},
		{func(e *admit.Entry) { e.Items = four }, true},
		{func(e *admit.Entry) { e.Items = append(slices.Clone(four), api.Item{T: "e", Need: 1}) }, false},
		{func(e *admit.Entry) { e.Items[1].T = "a" }, false},
		{func(e *admit.Entry) { e.Items[1].T = "" }, false},
		{func(e *admit.Entry) { e.Items[1].T = "A" }, false},
		{func(e *admit.Entry) { e.Items[1].Need = 0 }, false},
		{func(e *admit.Entry) { e.Items[0].Need = 1001 }, false},
		{func(e *admit.Entry) { e.Items[0].Need = 0.5 }, false},
		{func(e *admit.Entry) { e.Items[0].Need = complex(1, math.NaN()) }, false},
	} {
		e := entry()
		r.change(&e)
		want := api.ErrArg
		if r.right {
			want = api.OK
		}
		if err := admit.Check(e); err != want {
			t.Errorf("%d: Check %d", i, err)
		}
		b, err := admit.Pack(e)
		if err != want || err != api.OK && len(b) != 0 {
			t.Errorf("%d: Pack % x, %d", i, b, err)
		}
		if !r.right {
			continue
		}
		if back, err := admit.Unpack(b); err != api.OK || !same(back, e) {
			t.Errorf("%d: Unpack %v, %d", i, back, err)
		}
	}
}

// formless checks that there is no entry with these bytes.
func formless(t *testing.T, b []byte) {
	t.Helper()
	if e, err := admit.Unpack(b); err != api.ErrForm || !same(e, admit.Entry{}) {
		t.Errorf("% x: %v, %d", b, e, err)
	}
}

func TestUnpackOfNoEntry(t *testing.T) {
	for _, b := range [][]byte{
		nil,
		{0},
		{1, 'F', 1, 'e', 1, 1, 1, 'a', 1, 0},
		{1, 'f', 0, 1, 1, 1, 'a', 1, 0},
		{1, 'f', 1, 'e', 25, 1, 1, 'a', 1, 0},
		{1, 'f', 1, 'e', 0x81, 0, 1, 1, 'a', 1, 0},
		{1, 'f', 1, 'e', 0xff, 0xff, 0xff, 0xff, 0x7f, 1, 1, 'a', 1, 0},
		{1, 'f', 1, 'e', 1, 0},
		{1, 'f', 1, 'e', 1, 1, 1, 'a', 0, 0},
		{1, 'f', 1, 'e', 1, 1, 1, 'a', 1, 0, 0},
		{1, 'f', 1, 'e', 1, 2, 1, 'a', 1, 0, 1, 'a', 1, 0},
		{1, 'f', 1, 'e', 1, 0xff, 0xff, 0xff, 0xff, 0x7f, 1, 'a', 1, 0},
		{1, 'f', 1, 'e', 1, 0x81, 0, 1, 'a', 1, 0},
		{1, 'f', 1, 'e', 1, 1, 1, 'a', 0xc0, 0x9a, 0x0c, 1},
	} {
		formless(t, b)
	}
	for n := range packed {
		formless(t, packed[:n])
	}
	formless(t, append(slices.Clone(packed), 0))
}

func TestUnpackOfChangedBytes(t *testing.T) {
	for i := range packed {
		for c := range 256 {
			b := slices.Clone(packed)
			b[i] = byte(c)
			e, err := admit.Unpack(b)
			if err != api.OK {
				formless(t, b)
			} else if back, err := admit.Pack(e); err != api.OK || !bytes.Equal(back, b) {
				t.Errorf("% x: %v, which is % x", b, e, back)
			}
		}
	}
}

func TestMemory(t *testing.T) {
	b := append(slices.Clone(packed), 77)
	e, err := admit.Unpack(b[:len(packed)])
	if err != api.OK || !bytes.Equal(b, append(slices.Clone(packed), 77)) {
		t.Error("memory beyond the length was used, or changed")
	}
	room := append(entry().Items, api.Item{T: "rest"})
	e.Items = room[:2]
	got, _ := admit.Pack(e)
	if !bytes.Equal(got, packed) || room[2].T != "rest" || !slices.Equal(room[:2], entry().Items) {
		t.Error("the argument was changed")
	}
}

// list are entries of some executors.
func list() []admit.Entry {
	return []admit.Entry{
		{F: "f", E: "e", Run: 1, Items: []api.Item{{T: "a", Need: 1}, {T: "b", Need: 2}}},
		{F: "g", E: "e", Run: 9, Items: []api.Item{{T: "c", Need: 3}}},
		{F: "f", E: "e", Run: 0, Items: []api.Item{{T: "d", Need: 4}}},
		{F: "f", E: "x", Run: 5, Items: []api.Item{{T: "a", Need: 5}, {T: "e", Need: 6i}}},
		{F: "f", E: "e", Run: 4, Items: []api.Item{{T: "h", Need: 7}}},
		{F: "f", E: "e", Run: 2, Items: []api.Item{{T: "i", Need: 8}}},
	}
}

func TestKnown(t *testing.T) {
	for _, r := range []struct {
		f, t string
		at   int
		need complex128
		ok   bool
	}{
		{"f", "a", 0, 1, true}, {"f", "b", 0, 2, true}, {"g", "c", 1, 3, true}, {"f", "d", 2, 4, true},
		{"f", "e", 3, 6i, true}, {"f", "i", 5, 8, true},
		{"f", "c", 0, 0, false}, {"g", "a", 0, 0, false}, {"f", "z", 0, 0, false}, {"z", "a", 0, 0, false},
		{"", "", 0, 0, false}, {"e", "a", 0, 0, false},
	} {
		want := api.Item{}
		if r.ok {
			want = api.Item{T: r.t, Need: r.need}
		}
		at, it, ok := admit.Known(list(), api.Key{F: r.f, T: r.t})
		if at != r.at || it != want || ok != r.ok {
			t.Errorf("%q %q: %d, %v, %v", r.f, r.t, at, it, ok)
		}
	}
	if at, it, ok := admit.Known(nil, api.Key{F: "f", T: "a"}); at != 0 || it != (api.Item{}) || ok {
		t.Error(at, it, ok)
	}
}

func TestLastRun(t *testing.T) {
	for _, r := range []struct {
		f, e string
		want int
	}{{"f", "e", 4}, {"g", "e", 9}, {"f", "x", 5}, {"g", "x", 0}, {"z", "e", 0}, {"", "", 0}} {
		if got := admit.LastRun(list(), r.f, r.e); got != r.want {
			t.Errorf("%q %q: %d", r.f, r.e, got)
		}
	}
	if got := admit.LastRun(nil, "f", "e"); got != 0 {
		t.Error(got)
	}
	if got := admit.LastRun(list()[2:3], "f", "e"); got != 0 {
		t.Error(got)
	}
}

func TestNew(t *testing.T) {
	for _, r := range []struct {
		f    string
		t    []string
		want bool
	}{
		{"f", nil, true}, {"f", []string{"new"}, true}, {"f", []string{"new", "newer"}, true},
		{"f", []string{"a"}, false}, {"f", []string{"new", "d"}, false}, {"f", []string{"e", "new"}, false},
		{"g", []string{"a"}, true}, {"g", []string{"c"}, false}, {"z", []string{"a", "b", "c"}, true},
	} {
		var items []api.Item
		for _, s := range r.t {
			items = append(items, api.Item{T: s, Need: 1})
		}
		if got := admit.New(list(), r.f, items); got != r.want {
			t.Errorf("%q %q: %v", r.f, r.t, got)
		}
	}
}

func TestNewUpToMaxAdmit(t *testing.T) {
	var l []admit.Entry
	for n := range api.MaxAdmit + 3 {
		want := n < api.MaxAdmit
		if got := admit.New(l, "f", []api.Item{{T: "new", Need: 1}}); got != want {
			t.Errorf("%d entries: %v", n, got)
		}
		if got := admit.New(l, "f", nil); got != want {
			t.Errorf("%d entries: %v", n, got)
		}
		l = append(l, admit.Entry{F: "f", E: "e", Run: n % 3, Items: []api.Item{{T: fmt.Sprint("t", n), Need: 1}}})
	}
}
