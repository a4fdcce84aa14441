package disk

// noCut is what a cut lets through where none is set.
const noCut = -1

// supply is power, and the cut that lets it go.
type supply struct {
	gone  bool
	left  int  // writes that the cut still lets through; below 0: none is set
	stays bool // the cut was set while the power was gone, and no on came since
}

func (s *supply) cut(writes int) {
	s.left = max(writes, noCut)
	s.stays = s.gone
}

func (s *supply) on() {
	s.gone = false
	if !s.stays {
		s.left = noCut
	}
	s.stays = false
}

// lets tells whether a write that is good goes through; where it does not, the power goes.
func (s *supply) lets() bool {
	if s.left == 0 {
		s.gone = true
		return false
	}
	if s.left > 0 {
		s.left--
	}
	return true
}
