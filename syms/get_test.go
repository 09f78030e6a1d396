package syms

import "testing"

func TestGet(t *testing.T) {
	for _, steps := range []string{
		// Never told.
		"A? #0", "A? A:5 B? a? #1",
		// Told in this pass.
		"A:5 A?5 A?5", "A=5 A?5", "A=5 A=6 A?6",
		// Told in the one ahead.
		"A:5 other A?5 A?5", "A:5 A:6! other A?5", "A=5 other A?", "A=5 A=6 other A?", "A=5 A:6! other A?", "A:5 A=6! other A?5",
		// Told in both.
		"A:5 other A?5 A:6 A?6 other A?6", "A:5 other A?5 A=6 A?6 same A?", "A=5 other A? A:6 A?6 other A?6", "A=5 other A? A=6 A?6 A=7 A?7 same A?",
		// Told two passes ahead alone.
		"A:5 other A?5 other A? same A?", "A=5 other A? other A?", "A:5 other other A? A:6 A?6", "A:5 other A=6 same A? other A?", "A=5 other A:6 other A?6 other A?",
		// Told three passes ahead.
		"A:5 other other same A? same A? #1",
		// Told in this one, and two ahead.
		"A:5 other other A? A:6 A?6 other A?6 other A?",
		// Beside others.
		"A:5 B=6 C:7 other A?5 B? C?7 D? B:8 B?8 A?5 C?7 other A? B?8 C?",
		"A:5 other B:6 A?5 B?6 other A? B?6 other A? B? #2",
	} {
		play(t, steps)
	}
}

// Asking changes nothing, and makes no name known.
func TestGetChangesNothing(t *testing.T) {
	for _, steps := range []string{
		"A? A:5 A?5 A:6! A?5 other #1",
		"A? B? C? #0 same #0",
		"A:5 other A?5 A?5 other A? same",
		"A:5 other A?5 A:5 A?5 same A?5 A:5 same",
		"A=5 other A? A=6 A?6 same A?",
	} {
		play(t, steps)
	}
}
