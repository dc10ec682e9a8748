package sat

// lessons of conflicts, beside the lemmas themselves.
type lessons struct {
	marks  []int8  // of each variable: what it has to do with the conflict
	marked []int32 // variables that have a mark
	stamps []int   // of each level: the last conflict that had to do with it, turned if it has been counted
	from   []int32 // lemmas from which lemmas follow, those of one lemma behind those of the other
	ends   []int   // of each lemma where those that it follows from end
	glues  []int32 // of each lemma: of how many levels its literals were
	fresh  []bool  // of each lemma: it has been of use of late
	kept   []int32 // lemmas that are watched
}

// Marks.
const (
	met     = 1 // it is in the lemma, or it was on the way there
	implied = 2 // it follows from those in the lemma
	apart   = 3 // it does not
)

// mostDeep: from there on it costs more than it gains to ask what a literal follows from.
const mostDeep = 500

func newLessons(n int) lessons {
	return lessons{marks: make([]int8, n), stamps: make([]int, n+1)}
}

// lemma: the number of a clause among lemmas; below 0: it is one of the formula.
func (s *search) lemma(c int32) int { return int(c) - s.given }

// lay down a lemma, which follows from those that were used since the last one.
func (s *search) lay(l []int32, glue int32) int32 {
	s.clauses = append(s.clauses, l)
	s.ends = append(s.ends, len(s.from))
	s.glues = append(s.glues, glue)
	s.fresh = append(s.fresh, true)
	return int32(len(s.clauses) - 1)
}

// use a clause for the lemma that comes next.
func (s *search) use(c int32) {
	if n := s.lemma(c); n >= 0 {
		s.from = append(s.from, c)
		s.fresh[n] = true
	}
}

// learn from a conflict: a lemma that would have spared it, and what follows from it further up.
func (s *search) learn(conflict int32) {
	s.conflicts++
	l := s.shortened(s.derived(conflict))
	s.forget()
	glue := s.glue(l)
	c := s.lay(l, glue)
	s.undo(max(s.above(l), s.floor))
	if len(l) > 1 {
		s.attach(c)
		s.kept = append(s.kept, c)
	}
	s.set(l[0], c)
	s.fade()
	s.keepPace(glue)
	if s.conflicts >= s.due {
		s.drop()
	}
}

// derived lemma: from the clause that is false back to where one literal of the last level alone is left; it comes first.
func (s *search) derived(conflict int32) []int32 {
	l := []int32{0}
	left := 0
	meet := func(c int32) {
		s.use(c)
		for _, x := range s.clauses[c] {
			v := x >> 1
			if s.marks[v] != 0 || s.levels[v] == 0 {
				continue
			}
			s.mark(v, met)
			s.bump(v)
			if int(s.levels[v]) == len(s.starts) {
				left++
			} else {
				l = append(l, x)
			}
		}
	}
	meet(conflict)
	at := len(s.trail) - 1
	for ; ; at-- {
		if s.marks[s.trail[at]>>1] == 0 {
			continue
		}
		left--
		if left == 0 {
			break
		}
		meet(s.reasons[s.trail[at]>>1])
	}
	l[0] = s.trail[at] ^ 1
	return l
}

func (s *search) mark(v int32, as int8) {
	if s.marks[v] == 0 {
		s.marked = append(s.marked, v)
	}
	s.marks[v] = as
}

// forget the marks.
func (s *search) forget() {
	for _, v := range s.marked {
		s.marks[v] = 0
	}
	s.marked = s.marked[:0]
}

// shortened lemma: literals that follow from others are left out.
func (s *search) shortened(l []int32) []int32 {
	for _, x := range l {
		s.stamps[s.levels[x>>1]] = s.conflicts
	}
	short := l[:1]
	for _, x := range l[1:] {
		if !s.follows(x>>1, 0) {
			short = append(short, x)
		}
	}
	return append([]int32(nil), short...)
}

// follows what a variable is from others in the lemma?
func (s *search) follows(v int32, deep int) bool {
	c := s.reasons[v]
	if c == none || deep > mostDeep {
		return false
	}
	for _, x := range s.clauses[c] {
		u := x >> 1
		if u == v || s.levels[u] == 0 || s.marks[u] == met || s.marks[u] == implied {
			continue
		}
		// where nothing of its level is in the lemma, its guess is not, either
		if s.marks[u] == apart || s.stamps[s.levels[u]] != s.conflicts || !s.follows(u, deep+1) {
			s.mark(u, apart)
			return false
		}
		s.mark(u, implied)
	}
	s.use(c)
	return true
}

// glue of a lemma: of how many levels its literals are.
func (s *search) glue(l []int32) int32 {
	n := int32(0)
	for _, x := range l {
		level := s.levels[x>>1]
		if s.stamps[level] != -s.conflicts {
			s.stamps[level] = -s.conflicts
			n++
		}
	}
	return n
}

// above: the level from which on all literals but the first one are false. One of that level comes second, since it is open again as soon as any of them is.
func (s *search) above(l []int32) int {
	if len(l) == 1 {
		return 0
	}
	last := 1
	for i := range l {
		if i > 1 && s.levels[l[i]>>1] > s.levels[l[last]>>1] {
			last = i
		}
	}
	l[1], l[last] = l[last], l[1]
	return int(s.levels[l[1]>>1])
}
