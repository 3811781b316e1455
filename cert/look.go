package cert

import (
	"arithmetica/api"
	"arithmetica/modulo"
)

// look goes through a certificate, and counts the parts that it has come to. It goes no further than MaxList, so that it ends even where a part lies within itself.
type look struct{ seen int }

// at looks at a part, and then at what is in it.
func (l *look) at(c api.Cert) api.Fault {
	if l.seen == api.MaxList {
		return api.Fault{Code: api.ErrMany, At: 0}
	}
	number := l.seen
	l.seen++
	if code := wrong(c); code != api.OK {
		return api.Fault{Code: code, At: number}
	}
	for _, part := range c.Parts {
		if f := l.at(part); f.Code != api.OK {
			return f
		}
	}
	return api.Fault{}
}

// wrong answers the code of a part's own fault; of what is in it only the Ns count here.
func wrong(c api.Cert) int {
	switch {
	case c.N < 2 || c.N > api.MaxNum:
		return api.ErrRange
	case !isFormed(c):
		return api.ErrForm
	case !isTrue(c):
		return api.ErrFalse
	}
	return api.OK
}

// isFormed tells whether a part whose N is in range has the Root and the Parts that it should.
func isFormed(c api.Cert) bool {
	if c.N == 2 {
		return c.Root == 0 && len(c.Parts) == 0
	}
	if c.Root < 2 || c.Root >= c.N {
		return false
	}
	left, last := c.N-1, 1
	for _, part := range c.Parts {
		if part.N <= last || left%part.N != 0 {
			return false
		}
		for left%part.N == 0 {
			left /= part.N
		}
		last = part.N
	}
	return left == 1
}

// isTrue tells whether the powers of a formed part's Root are what they should be. 2 has no Root of which there were something to ask.
func isTrue(c api.Cert) bool {
	if c.N == 2 {
		return true
	}
	if modulo.Power(c.Root, c.N-1, c.N) != 1 {
		return false
	}
	for _, part := range c.Parts {
		if modulo.Power(c.Root, (c.N-1)/part.N, c.N) == 1 {
			return false
		}
	}
	return true
}
