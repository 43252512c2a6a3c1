package quorum

import (
	"strings"

	"quorum/api"
)

// copyEntries makes the commands anew, too: a short piece of a long text that was handed in would keep the whole of it.
func copyEntries(entries []api.Entry) []api.Entry {
	own := make([]api.Entry, len(entries))
	for i, e := range entries {
		own[i] = api.Entry{Term: e.Term, Command: strings.Clone(e.Command)}
	}
	return own
}
