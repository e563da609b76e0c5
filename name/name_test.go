package name_test

import (
	"slices"
	"strconv"
	"strings"
	"testing"

	"hostler/api"
	"hostler/name"
)

func TestRightOfLengths(t *testing.T) {
	for n := 0; n <= 20; n++ {
		want := n >= 1 && n <= api.MaxName
		if got := name.Right(strings.Repeat("k", n)); got != want {
			t.Errorf("length %d: %v", n, got)
		}
	}
	if name.Right(strings.Repeat("a", 1<<20)) {
		t.Error("a very long name")
	}
}

func TestRightOfEveryByte(t *testing.T) {
	for c := 0; c < 256; c++ {
		want := c >= 'a' && c <= 'z' || c >= '0' && c <= '9'
		for _, s := range []string{string([]byte{byte(c)}), string([]byte{'a', byte(c)}), string([]byte{byte(c), '0'}), string([]byte{'a', byte(c), 'b', '1'}), "abcdefg" + string([]byte{byte(c)})} {
			if got := name.Right(s); got != want {
				t.Errorf("%q: %v", s, got)
			}
		}
	}
}

func TestRightOfOtherLetters(t *testing.T) {
	for _, s := range []string{"é", "ß", "٣", "\uff41", "a\x00", "\xff", " a", "a ", "a/b", "a~", "Aa"} {
		if name.Right(s) {
			t.Errorf("%q is a name", s)
		}
	}
}

func TestKey(t *testing.T) {
	for _, r := range []struct {
		k    api.Key
		want bool
	}{
		{api.Key{F: "f", T: "t"}, true},
		{api.Key{F: "abcdefgh", T: "01234567"}, true},
		{api.Key{F: "f"}, false},
		{api.Key{T: "t"}, false},
		{api.Key{}, false},
		{api.Key{F: "f", T: "T"}, false},
		{api.Key{F: "F", T: "t"}, false},
		{api.Key{F: "abcdefghi", T: "t"}, false},
		{api.Key{F: "f", T: "abcdefghi"}, false},
	} {
		if got := name.Key(r.k); got != r.want {
			t.Errorf("%q: %v", r.k, got)
		}
	}
}

func TestLessIsTheOrderByFrameworkAndThenTask(t *testing.T) {
	parts := []string{"", "0", "9", "A", "a", "a0", "aa", "ab", "b", "ba", "z", "\xff", "é"}
	for _, f1 := range parts {
		for _, t1 := range parts {
			for _, f2 := range parts {
				for _, t2 := range parts {
					want := f1 < f2 || f1 == f2 && t1 < t2
					if got := name.Less(api.Key{F: f1, T: t1}, api.Key{F: f2, T: t2}); got != want {
						t.Errorf("%q %q, %q %q: %v", f1, t1, f2, t2, got)
					}
				}
			}
		}
	}
}

func TestAll(t *testing.T) {
	for _, r := range []struct {
		l    []string
		want bool
	}{
		{nil, true},
		{[]string{}, true},
		{[]string{"a"}, true},
		{[]string{"a", "b", "c", "abc"}, true},
		{[]string{"b", "a"}, true},
		{[]string{"a", "a"}, false},
		{[]string{"a", "b", "a"}, false},
		{[]string{"b", "a", "a"}, false},
		{[]string{""}, false},
		{[]string{"a", "B"}, false},
		{[]string{"B", "a"}, false},
		{[]string{"a", "b", "abcdefghi"}, false},
		{[]string{"a", "", "b"}, false},
	} {
		if got := name.All(r.l...); got != r.want {
			t.Errorf("%q: %v", r.l, got)
		}
	}
}

func TestAllOfManyLeavesThemAlone(t *testing.T) {
	var l []string
	for i := range 50000 {
		l = append(l, strconv.Itoa(49999-i))
	}
	before := slices.Clone(l)
	if !name.All(l...) {
		t.Error("all are names, and none is there twice")
	}
	if !slices.Equal(l, before) {
		t.Error("the argument was changed")
	}
	l[49999] = l[0]
	if name.All(l...) {
		t.Error("one is there twice")
	}
}
