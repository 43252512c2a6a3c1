package quorum

import "quorum/api"

func soundNodes(id, n int) bool {
	return n >= 1 && n <= api.MaxNodes && id >= 0 && id < n
}

func soundSaved(saved api.Saved, n int) bool {
	return saved.Term >= 0 && saved.Term <= api.MaxTerm &&
		saved.Vote >= none && saved.Vote < n &&
		len(saved.Log) <= api.MaxLog &&
		soundEntries(saved.Log, 1, saved.Term)
}

func soundMessage(m api.Message, id, n int) bool {
	return m.Kind >= api.Ask && m.Kind <= api.AppendReply &&
		m.To == id && m.From != id && soundNodes(m.From, n) &&
		m.Term >= 1 && m.Term <= api.MaxTerm &&
		soundNumbers(m.Index, m.LogTerm, m.Commit) &&
		len(m.Entries) <= api.MaxSend &&
		soundEntries(m.Entries, max(1, m.LogTerm), m.Term)
}

func soundNumbers(numbers ...int) bool {
	for _, number := range numbers {
		if number < 0 || number > api.MaxTerm {
			return false
		}
	}
	return true
}

// soundEntries asks for terms from least to most that do not fall, and for commands that may be.
func soundEntries(entries []api.Entry, least, most int) bool {
	for _, e := range entries {
		if e.Term < least || e.Term > most || !soundCommand(e.Command) {
			return false
		}
		least = e.Term
	}
	return true
}

func soundCommand(command string) bool {
	return len(command) <= api.MaxCommand
}
