package key

import (
	"testing"

	"marquee/api"
)

// Promise 4.2: with the last row that needs it each piece is deleted, so a map of nothing holds nothing.
func TestNothingIsHeldOfRowsThatWent(t *testing.T) {
	m := New()
	for range 3 {
		for i := range 100 {
			m.Add(digits(i), 1)
			m.Add(digits(i), 1)
		}
		if len(m.ways) != 110 || len(m.held) != 100 {
			t.Errorf("%d ways, %d held", len(m.ways), len(m.held))
		}
		m.Add(digits(7)[:1], 1)
		m.Remove(digits(7)[:1])
		if len(m.ways) != 110 || len(m.held) != 100 {
			t.Errorf("%d ways, %d held", len(m.ways), len(m.held))
		}
		for i := range 100 {
			m.Remove(digits(i))
			m.Remove(digits(i))
		}
		if len(m.ways) != 0 || len(m.held) != 0 {
			t.Errorf("%d ways, %d held", len(m.ways), len(m.held))
		}
	}
}

// What is refused, or only asked for, leaves nothing behind.
func TestNothingIsHeldOfRowsThatWereRefused(t *testing.T) {
	m := New()
	m.Add(append(digits(12), api.Value{Kind: 9}), 1)
	m.Get(digits(34))
	m.Remove(digits(56))
	if len(m.ways) != 0 || len(m.held) != 0 {
		t.Errorf("%d ways, %d held", len(m.ways), len(m.held))
	}
}

func digits(n int) []api.Value {
	return []api.Value{{Kind: api.KindInt, N: n / 10}, {Kind: api.KindInt, N: n % 10}}
}
