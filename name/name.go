// Package name: names of frameworks, executors and tasks.
package name

import (
	"hostler/api"
)

func Right(s string) bool {
	if len(s) < 1 || len(s) > api.MaxName {
		return false
	}
	for i := range len(s) {
		if !plain(s[i]) {
			return false
		}
	}
	return true
}

func plain(c byte) bool {
	return c >= 'a' && c <= 'z' || c >= '0' && c <= '9'
}

func Key(k api.Key) bool {
	return Right(k.F) && Right(k.T)
}

func Less(a, b api.Key) bool {
	if a.F != b.F {
		return a.F < b.F
	}
	return a.T < b.T
}

func All(l ...string) bool {
	seen := map[string]struct{}{}
	for _, s := range l {
		if _, twice := seen[s]; twice || !Right(s) {
			return false
		}
		seen[s] = struct{}{}
	}
	return true
}
