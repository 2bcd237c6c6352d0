package cache

import (
	"lavabo/api"
	"lavabo/forms"
	"lavabo/pages"
)

// Bounds of a superblock that no other package tells.
const (
	leastJournal = 4 // so that there is room behind a checkpoint
	mostJournal  = 1024
	mostLogs     = 1024
	mostBatch    = 64
)

// Layout is where each part begins.
type Layout struct {
	Pages    int
	Journal  int
	Intents  int
	Certs    int
	Failures int
	Slots    int
	Size     int
}

func within(n, low, high int) bool { return low <= n && n <= high }

// Plan: P14.1.
func Plan(s forms.Super) (Layout, api.Errno) {
	may := within(s.Blocks, 1, api.MaxSectors) &&
		within(s.Slots, 1, api.MaxSlots) &&
		within(s.Journal, leastJournal, mostJournal) &&
		within(s.Logs, 1, mostLogs) &&
		within(s.Batch, 1, mostBatch) &&
		within(s.Pages, pages.Need(s.Slots), api.MaxSectors)
	if !may {
		return Layout{}, api.ErrSize
	}
	l := Layout{Pages: 1} // behind the superblock
	l.Journal = l.Pages + 2*s.Pages
	l.Intents = l.Journal + s.Journal
	l.Certs = l.Intents + s.Logs
	l.Failures = l.Certs + s.Logs
	l.Slots = l.Failures + s.Logs
	l.Size = l.Slots + s.Slots
	if l.Size > api.MaxSectors {
		return Layout{}, api.ErrSize
	}
	return l, api.OK
}
