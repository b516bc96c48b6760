package mem

import "stockade/api"

func isSize(size int) bool { return size == 1 || size == 2 || size == 4 || size == 8 }

// within answers whether some bytes lie in so many; off plus size may be more than a number can be.
func within(room int, off int64, size int) bool { return off >= 0 && off <= int64(room-size) }

// onStack tells whether some bytes of the stack may be loaded or stored to at once.
func onStack(off int64, size int) api.Errno {
	switch {
	case !within(api.Stack, off, size):
		return api.TrapBound
	case off%int64(size) != 0:
		return api.TrapAlign
	}
	return api.OK
}

// part hands out some of the bytes of b, which end where their room does.
func part(b []byte, off int64, size int) ([]byte, api.Errno) {
	switch {
	case !isSize(size):
		return nil, api.ErrArg
	case !within(len(b), off, size):
		return nil, api.TrapBound
	}
	end := off + int64(size)
	return b[off:end:end], api.OK
}

// number tells the number of some bytes.
func number(p []byte) uint64 {
	n := uint64(0)
	for k, b := range p {
		n |= uint64(b) << (8 * k)
	}
	return n
}

// lay makes some bytes those of a number.
func lay(p []byte, n uint64) {
	for k := range p {
		p[k] = byte(n >> (8 * k))
	}
}
