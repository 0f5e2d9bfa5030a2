package carry

import (
	"testing"

	"hackney/give"
	"hackney/hist"
)

// P18.1, P19.1, P20.1: carried is an id in the states offer, free and close
// alone.
func TestOf(t *testing.T) {
	want := map[string]uint64{"offer": 8, "free": 8, "close": 8}
	for _, state := range []string{"offer", "free", "stash", "again", "back", "close", "unlist", "shrink", "done", "", "Offer", "closed"} {
		g := give.Give{Thread: 3, Op: hist.Put, ID: 8, Word: 5, State: state}
		if got := Of(g); got != want[state] {
			t.Errorf("of %s: %d, wanted %d", state, got, want[state])
		}
	}
	if got := Of(give.Offer(0, hist.Get, 1<<63, 1)); got != 1<<63 {
		t.Errorf("of a great id: %d", got)
	}
	if got := Of(give.Give{}); got != 0 {
		t.Errorf("of nothing: %d", got)
	}
}
