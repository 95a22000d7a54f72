package arena

// space is a stretch of places, of which the beginning is in use.
type space struct{ base, size, used int }

// end is the place behind what is in use.
func (s space) end() int { return s.base + s.used }

func (s space) free() int { return s.size - s.used }

// holds tells whether a place is one of those in use.
func (s space) holds(at int) bool { return at >= s.base && at < s.end() }

// take puts n more words in use, and answers where they begin; false: there is no room, and none is taken.
func (s *space) take(n int) (int, bool) {
	if n > s.free() {
		return 0, false
	}
	at := s.end()
	s.used += n
	return at, true
}
