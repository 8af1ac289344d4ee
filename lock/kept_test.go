package lock

import (
	"testing"

	"marchland/api"
)

// TestTakenIsGone: what was taken is kept no longer, however many turns are played.
func TestTakenIsGone(t *testing.T) {
	k, _ := New(2, 3)
	for turn := range 50 {
		for player := range 2 {
			if err := k.Send(player, turn, []api.Order{{Player: player}}); err != nil {
				t.Fatal(err)
			}
		}
		if _, _, err := k.Take(); err != nil || len(k.sent) != 0 {
			t.Fatalf("turn %d: %v, and %d lists are kept", turn, err, len(k.sent))
		}
	}
}
