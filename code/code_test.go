package code_test

import (
	"bytes"
	"math"
	"strings"
	"testing"

	"hostler/code"
)

const most = 1<<35 - 1

var numbers = []struct {
	n int
	b []byte
}{
	{0, []byte{0}},
	{1, []byte{1}},
	{127, []byte{0x7f}},
	{128, []byte{0x80, 1}},
	{129, []byte{0x81, 1}},
	{300, []byte{0xac, 0x02}},
	{1<<14 - 1, []byte{0xff, 0x7f}},
	{1 << 14, []byte{0x80, 0x80, 1}},
	{1<<21 - 1, []byte{0xff, 0xff, 0x7f}},
	{1 << 21, []byte{0x80, 0x80, 0x80, 1}},
	{1<<28 - 1, []byte{0xff, 0xff, 0xff, 0x7f}},
	{1 << 28, []byte{0x80, 0x80, 0x80, 0x80, 1}},
	{1<<31 - 1, []byte{0xff, 0xff, 0xff, 0xff, 0x07}},
	{1<<34 + 5, []byte{0x85, 0x80, 0x80, 0x80, 0x40}},
	{most, []byte{0xff, 0xff, 0xff, 0xff, 0x7f}},
}

func TestNumber(t *testing.T) {
	for _, r := range numbers {
		if got := code.Number(r.n); !bytes.Equal(got, r.b) {
			t.Errorf("%d: % x", r.n, got)
		}
	}
	for _, n := range []int{-1, -128, math.MinInt, most + 1, 1 << 36, math.MaxInt} {
		if got := code.Number(n); len(got) != 0 {
			t.Errorf("%d: % x", n, got)
		}
	}
}

func TestText(t *testing.T) {
	for _, s := range []string{"", "a", "ab\x00\xff", "é\n", strings.Repeat("x", 127), strings.Repeat("y", 128), strings.Repeat("z", 200)} {
		want := append(code.Number(len(s)), s...)
		if got := code.Text(s); !bytes.Equal(got, want) {
			t.Errorf("%q: % x", s, got)
		}
	}
	for _, n := range []int{201, 256, 1000} {
		if got := code.Text(strings.Repeat("x", n)); len(got) != 0 {
			t.Errorf("length %d: % x", n, got)
		}
	}
	if got := code.Text("hi"); !bytes.Equal(got, []byte{2, 'h', 'i'}) {
		t.Errorf("% x", got)
	}
}

func TestReadNumber(t *testing.T) {
	for _, x := range numbers {
		r := code.New(x.b)
		if r.Done() || r.Bad() {
			t.Errorf("%d is read before it is read", x.n)
		}
		if got := r.Number(); got != x.n || !r.Done() || r.Bad() {
			t.Errorf("%d: %d, done %v, bad %v", x.n, got, r.Done(), r.Bad())
		}
		r = code.New(append(bytes.Clone(x.b), 9))
		if got := r.Number(); got != x.n || r.Done() || r.Bad() {
			t.Errorf("%d and a byte: %d, done %v, bad %v", x.n, got, r.Done(), r.Bad())
		}
		if got := r.Number(); got != 9 || !r.Done() {
			t.Errorf("behind %d: %d", x.n, got)
		}
	}
}

func TestNoNumber(t *testing.T) {
	for _, b := range [][]byte{
		nil,
		{},
		{0x80},
		{0xff, 0xff},
		{0xff, 0xff, 0xff, 0xff},
		{0xff, 0xff, 0xff, 0xff, 0xff},
		{0xff, 0xff, 0xff, 0xff, 0x80, 0x01},
		{0x80, 0x80, 0x80, 0x80, 0x80, 0x01},
		{0xff, 0xff, 0xff, 0xff, 0xff, 0xff, 0xff, 0xff, 0xff, 0x01},
		{0x80, 0x00},
		{0xac, 0x82, 0x00},
		{0xff, 0xff, 0xff, 0xff, 0x00},
		{0x80, 0x80, 0x80, 0x80, 0x00},
		{0x80, 0x00, 0x05, 0x05},
	} {
		r := code.New(b)
		if got := r.Number(); got != 0 || !r.Bad() || r.Done() {
			t.Errorf("% x: %d, bad %v, done %v", b, got, r.Bad(), r.Done())
		}
		staysBad(t, r)
	}
}

// staysBad asks a bad reader for more.
func staysBad(t *testing.T, r *code.Reader) {
	t.Helper()
	for range 7 {
		if n, s := r.Number(), r.Text(); n != 0 || s != "" || !r.Bad() || r.Done() {
			t.Errorf("a bad reader has read %d and %q", n, s)
		}
	}
}

func TestReadText(t *testing.T) {
	for _, s := range []string{"", "a", "\x00\xff", strings.Repeat("x", 127), strings.Repeat("y", 128), strings.Repeat("z", 200)} {
		r := code.New(append(code.Text(s), 1, 'q', 7))
		if got := r.Text(); got != s || r.Bad() || r.Done() {
			t.Errorf("%q: %q", s, got)
		}
		if got := r.Text(); got != "q" || r.Done() {
			t.Errorf("behind %q: %q", s, got)
		}
		if got := r.Number(); got != 7 || !r.Done() {
			t.Errorf("at the end: %d", got)
		}
	}
}

func TestNoText(t *testing.T) {
	for _, b := range [][]byte{
		nil,
		{1},
		{3, 'a', 'b'},
		{0x80},
		{0x80, 0x00},
		{0x81, 0x00, 'a'},
		append(code.Number(200), bytes.Repeat([]byte{'x'}, 199)...),
		append(code.Number(201), bytes.Repeat([]byte{'x'}, 201)...),
		append(code.Number(300), bytes.Repeat([]byte{'x'}, 400)...),
		append(code.Number(most), 'x'),
		{0xff, 0xff, 0xff, 0xff, 0xff, 0x01, 'x'},
	} {
		r := code.New(b)
		if got := r.Text(); got != "" || !r.Bad() || r.Done() {
			t.Errorf("% x: %q, bad %v", b, got, r.Bad())
		}
		staysBad(t, r)
	}
}

func TestManyThingsBehindEachOther(t *testing.T) {
	var b []byte
	for _, x := range numbers {
		for _, y := range numbers {
			b = append(b, x.b...)
			b = append(b, code.Text("ab")...)
			b = append(b, y.b...)
		}
	}
	r := code.New(b)
	for _, x := range numbers {
		for _, y := range numbers {
			if n, s, m := r.Number(), r.Text(), r.Number(); n != x.n || s != "ab" || m != y.n || r.Bad() {
				t.Fatalf("%d, %q, %d, not %d, %d", n, s, m, x.n, y.n)
			}
		}
	}
	if !r.Done() {
		t.Error("not all was read")
	}
	for _, l := range [][]byte{{0, 0}, {0, 0, 0}, {0, 0, 0x80, 1}, {5, 0, 0}, {0xac, 2, 0}} {
		r := code.New(l)
		for !r.Done() && !r.Bad() {
			r.Number()
		}
		if r.Bad() {
			t.Errorf("% x", l)
		}
	}
}

func TestAnEmptyReaderIsDone(t *testing.T) {
	if r := code.New(nil); !r.Done() || r.Bad() {
		t.Error("nothing is there to be read")
	}
}

func TestBadBehindGoodThings(t *testing.T) {
	r := code.New([]byte{5, 1, 'a', 0x80})
	if r.Number() != 5 || r.Text() != "a" || r.Bad() {
		t.Error("good things were not read")
	}
	if r.Number() != 0 || !r.Bad() {
		t.Error("a bad thing was read")
	}
	staysBad(t, r)
}

func TestReaderKeepsItsOwnBytes(t *testing.T) {
	b := []byte{5, 2, 'a', 'b'}
	r := code.New(b)
	copy(b, []byte{0x80, 0x80, 0x80, 0x80})
	if r.Number() != 5 || r.Text() != "ab" || !r.Done() {
		t.Error("the reader reads its argument's memory")
	}
}

func TestReaderStopsAtTheLength(t *testing.T) {
	b := []byte{5, 2, 'a', 'b'}
	r := code.New(b[:3])
	if r.Number() != 5 || r.Text() != "" || !r.Bad() {
		t.Error("memory beyond the length was read")
	}
	if !bytes.Equal(b, []byte{5, 2, 'a', 'b'}) {
		t.Error("the argument was changed")
	}
}

func TestEveryShortInputIsOneNumberOrNone(t *testing.T) {
	for i := range 1 << 16 {
		b := []byte{byte(i), byte(i >> 8)}
		r := code.New(b)
		n := r.Number()
		switch {
		case r.Bad():
			if n != 0 || b[0] < 128 || b[1] > 0 && b[1] < 128 {
				t.Fatalf("% x is bad, with %d", b, n)
			}
		case !bytes.HasPrefix(b, code.Number(n)) || r.Done() != (len(code.Number(n)) == 2):
			t.Fatalf("% x: %d", b, n)
		}
	}
}
