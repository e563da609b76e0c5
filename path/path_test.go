package path_test

import (
	"fmt"
	"math"
	"testing"

	"hostler/api"
	"hostler/path"
)

func TestEpoch(t *testing.T) {
	if got := path.Epoch(); got != "epoch" {
		t.Error(got)
	}
}

func TestNumbers(t *testing.T) {
	for n := -3; n <= 110; n++ {
		admit, gone, box := "", "", ""
		if n >= 1 && n <= api.MaxAdmit {
			admit = fmt.Sprintf("admit/%02d", n)
			gone = fmt.Sprintf("gone/fr/e9/%02d", n)
			box = fmt.Sprintf("box/fr/e9/%02d", n)
		}
		if got := path.Admit(n); got != admit {
			t.Errorf("Admit %d: %q", n, got)
		}
		if got := path.Gone("fr", "e9", n); got != gone {
			t.Errorf("Gone %d: %q", n, got)
		}
		if got := path.Box("fr", "e9", n); got != box {
			t.Errorf("Box %d: %q", n, got)
		}
	}
	for _, n := range []int{math.MinInt, math.MaxInt, 1 << 32, 1<<32 + 1, 256 + 1} {
		if path.Admit(n) != "" || path.Gone("f", "e", n) != "" || path.Box("f", "e", n) != "" {
			t.Error(n)
		}
	}
}

func TestNames(t *testing.T) {
	for s, right := range map[string]bool{"a": true, "abcdefgh": true, "0": true, "": false, "abcdefghi": false, "A": false, "a/b": false, "..": false, "a~": false, "é": false} {
		log1, log2, gone1, gone2, box1, box2 := "", "", "", "", "", ""
		if right {
			log1, log2 = "log/"+s+"/x", "log/x/"+s
			gone1, gone2 = "gone/"+s+"/x/03", "gone/x/"+s+"/03"
			box1, box2 = "box/"+s+"/x/03", "box/x/"+s+"/03"
		}
		for _, r := range []struct{ got, want string }{
			{path.Log(api.Key{F: s, T: "x"}), log1},
			{path.Log(api.Key{F: "x", T: s}), log2},
			{path.Gone(s, "x", 3), gone1},
			{path.Gone("x", s, 3), gone2},
			{path.Box(s, "x", 3), box1},
			{path.Box("x", s, 3), box2},
		} {
			if r.got != r.want {
				t.Errorf("%q, not %q", r.got, r.want)
			}
		}
	}
	if got := path.Log(api.Key{}); got != "" {
		t.Error(got)
	}
}

func TestTemp(t *testing.T) {
	for _, s := range []string{"", "a", "epoch", "admit/03", "a~", "~"} {
		if got := path.Temp(s); got != s+"~" || !path.IsTemp(got) {
			t.Errorf("%q: %q", s, got)
		}
	}
	for s, is := range map[string]bool{"~": true, "a~": true, "a~~": true, "~a": false, "": false, "a": false, "a~b": false, "a~ ": false} {
		if got := path.IsTemp(s); got != is {
			t.Errorf("%q: %v", s, got)
		}
	}
}
