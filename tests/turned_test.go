package tests

import "testing"

// eachByte is every byte once.
func eachByte() string {
	var all [256]byte
	for b := range all {
		all[b] = byte(b)
	}
	return string(all[:])
}

// checkTurned checks s cut at each place, with a byte taken out, and with each of those bytes put in or in its place.
func checkTurned(t *testing.T, s string, bytes string, check func(*testing.T, string)) {
	t.Helper()
	for i := range len(s) {
		check(t, s[:i])
		check(t, s[i:])
		check(t, s[:i]+s[i+1:])
		for b := range len(bytes) {
			one := bytes[b : b+1]
			check(t, s[:i]+one+s[i:])
			check(t, s[:i]+one+s[i+1:])
		}
	}
	for b := range len(bytes) {
		check(t, s+bytes[b:b+1])
	}
}

// checkShort checks all texts of 1 to many of the parts; those of just so many are handed back.
func checkShort(t *testing.T, parts []string, many int, check func(*testing.T, string)) []string {
	t.Helper()
	level := []string{""}
	for range many {
		var next []string
		for _, s := range level {
			for _, part := range parts {
				next = append(next, s+part)
				check(t, s+part)
			}
		}
		level = next
	}
	return level
}
