package sat

import (
	"cmp"
	"slices"
)

// pace of a search: when it begins anew, and when lemmas go.
type pace struct {
	since int // conflicts since it began anew
	late  int // how many levels lemmas were of: of late,
	long  int // and in the long run
	drops int // how often lemmas went
	due   int // conflicts at which they go next
}

const (
	part      = 1 << 20 // levels are told in such parts
	lateSpan  = 1 << 5  // conflicts
	longSpan  = 1 << 14
	leastRun  = 10
	firstDrop = 2000
	laterDrop = 300
)

func newPace() pace { return pace{due: firstDrop} }

// keepPace with a conflict, whose lemma is of so many levels.
func (s *search) keepPace(glue int32) {
	s.since++
	toward := func(old, span int) int { return old + (int(glue)*part-old)/min(s.conflicts, span) }
	s.late, s.long = toward(s.late, lateSpan), toward(s.long, longSpan)
}

// isLost: lemmas have become worse, so that it is better to begin anew.
func (s *search) isLost() bool {
	// The least run grows, so that in the end there is one that is long enough for all there is.
	return s.since >= leastRun+s.conflicts>>13 && s.late*10 > s.long*11
}

// anew: guesses are taken back, but for the first ones, which would be made again.
func (s *search) anew() {
	s.since = 0
	for len(s.heap) > 0 && s.values[2*s.heap[0]] != 0 {
		s.pop()
	}
	level := s.floor
	for level < len(s.starts) && (len(s.heap) == 0 || s.ahead(s.trail[s.starts[level]]>>1, s.heap[0])) {
		level++
	}
	s.undo(level)
}

// drop half of the lemmas that are weak: nothing is watched for them any more. They stay as they are, since what is set may follow from them, and other lemmas do.
func (s *search) drop() {
	s.drops++
	s.due = s.conflicts + firstDrop + laterDrop*s.drops
	weak := s.weak()
	gone := make([]bool, len(s.clauses))
	for _, c := range weak[:len(weak)/2] {
		gone[c] = true
	}
	for x := range s.watches {
		s.watches[x] = slices.DeleteFunc(s.watches[x], func(w watch) bool { return gone[w.clause] })
	}
	s.kept = slices.DeleteFunc(s.kept, func(c int32) bool { return gone[c] })
}

// weak lemmas, the weakest first: of many levels, long, and old.
func (s *search) weak() []int32 {
	var l []int32
	for _, c := range s.kept {
		if n := s.lemma(c); s.glues[n] > 6 || s.glues[n] > 2 && !s.fresh[n] {
			l = append(l, c)
		}
		s.fresh[s.lemma(c)] = false
	}
	slices.SortFunc(l, func(a, b int32) int {
		glue := cmp.Compare(s.glues[s.lemma(b)], s.glues[s.lemma(a)])
		return cmp.Or(glue, cmp.Compare(len(s.clauses[b]), len(s.clauses[a])), cmp.Compare(a, b))
	})
	return l
}
