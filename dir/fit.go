package dir

import "eddy/api"

// Name tells whether a text is a channel's name.
func Name(s string) bool {
	if len(s) < 1 || len(s) > api.MaxName {
		return false
	}
	for i := range len(s) {
		if !isLetter(s[i]) {
			return false
		}
	}
	return true
}

// Fit tells whether a record is one.
func Fit(c api.Chan) bool {
	return Name(c.Name) && within(1, c.Epoch, api.MaxEpoch) && isNode(c.Maker) && isKind(c.Kind) && isScale(c.Kind, c.Scale)
}

// Fits tells whether a list of records is one.
func Fits(l []api.Chan) bool {
	if len(l) > api.MaxChans {
		return false
	}
	last := "" // ahead of all names
	for _, c := range l {
		if c.Name <= last || !Fit(c) {
			return false
		}
		last = c.Name
	}
	return true
}

// isLetter tells whether a byte may stand in a name.
func isLetter(c byte) bool {
	return 'a' <= c && c <= 'z' || '0' <= c && c <= '9' || c == '_'
}

func isNode(n int) bool { return n >= 0 && n < api.MaxNodes }

func isKind(k int) bool { return k >= api.KMean && k <= api.KExt }

// isScale tells whether a scale is one of a kind.
func isScale(kind int, scale int64) bool {
	if kind == api.KExt { // a scale is for what is halved
		return scale == 1
	}
	return within(1, scale, api.MaxScale)
}

// within tells whether x is from least to most.
func within(least, x, most int64) bool { return least <= x && x <= most }
