package record

import (
	"beadlayer/api"
)

// The states of jobs.
const (
	runs   = "runs"
	done   = "done"
	failed = "failed"
)

// job is how a job fares: how many of its layers are printed, and when it began, when its last layer was printed, and when it ended.
type job struct {
	name, state             string
	layers, printed         int
	began, printedAt, ended int
}

// spool is how much is left on a spool, and how much of it has been used in all.
type spool struct {
	name       string
	loaded     bool
	left, used int
}

// book is what notes tell that were followed in order: all jobs and spools by their names, and those that are in printers by the printers.
type book struct {
	jobs    map[string]*job
	running map[string]*job
	spools  map[string]*spool
	loaded  map[string]*spool
	refused []int
	reasons []api.Errno
}

// bookOf follows those of valid notes that count at a moment.
func bookOf(n []api.Note, at int) *book {
	b := &book{jobs: make(map[string]*job), running: make(map[string]*job), spools: make(map[string]*spool), loaded: make(map[string]*spool)}
	for _, i := range counting(n, at) {
		if why := b.follow(n[i]); why != api.OK {
			b.refused = append(b.refused, i)
			b.reasons = append(b.reasons, why)
		}
	}
	return b
}

// follow does what a note tells, or returns why it is refused.
func (b *book) follow(x api.Note) api.Errno {
	switch x.Kind {
	case api.NoteBegin:
		return b.begin(x)
	case api.NoteLayer:
		return b.layer(x)
	case api.NoteEnd:
		return b.end(x, done)
	case api.NoteFail:
		return b.end(x, failed)
	case api.NoteLoad:
		return b.load(x)
	case api.NoteUse:
		return b.use(x)
	}
	return api.OK
}

func (b *book) begin(x api.Note) api.Errno {
	if b.jobs[x.Job] != nil {
		return api.ErrTwice
	}
	if b.running[x.Printer] != nil {
		return api.ErrFull
	}
	j := &job{name: x.Job, state: runs, layers: x.N, began: x.At}
	b.jobs[x.Job], b.running[x.Printer] = j, j
	return api.OK
}

func (b *book) layer(x api.Note) api.Errno {
	j := b.running[x.Printer]
	switch {
	case j == nil:
		return api.ErrNone
	case x.N != j.printed+1:
		return api.ErrOrder
	case x.N > j.layers:
		return api.ErrLarge
	}
	j.printed, j.printedAt = x.N, x.At
	return api.OK
}

// end takes a job from its printer, with the state that it has from then on.
func (b *book) end(x api.Note, state string) api.Errno {
	j := b.running[x.Printer]
	if j == nil {
		return api.ErrNone
	}
	if state == done && j.printed < j.layers {
		return api.ErrState
	}
	j.state, j.ended = state, x.At
	delete(b.running, x.Printer)
	return api.OK
}

func (b *book) load(x api.Note) api.Errno {
	s := b.spools[x.Spool]
	if s == nil {
		s = &spool{name: x.Spool}
		b.spools[x.Spool] = s
	}
	if s.loaded {
		return api.ErrTwice
	}
	if before := b.loaded[x.Printer]; before != nil {
		before.loaded = false
	}
	s.loaded, s.left = true, x.N
	b.loaded[x.Printer] = s
	return api.OK
}

func (b *book) use(x api.Note) api.Errno {
	s := b.loaded[x.Printer]
	if s == nil {
		return api.ErrNone
	}
	if s.left < x.N {
		return api.ErrFull
	}
	s.left -= x.N
	s.used += x.N
	return api.OK
}
