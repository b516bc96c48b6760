package tnum

import "stockade/api"

// Lsh: P9.5.
func Lsh(t api.Tnum, n int) (api.Tnum, api.Errno) {
	return shifted(t, n, 64, func(x uint64) uint64 { return x << n })
}

// Rsh: P9.5.
func Rsh(t api.Tnum, n int) (api.Tnum, api.Errno) {
	return shifted(t, n, 64, func(x uint64) uint64 { return x >> n })
}

// Arsh: P9.5.
func Arsh(t api.Tnum, n, size int) (api.Tnum, api.Errno) {
	if size != 32 && size != 64 {
		return api.Tnum{}, api.ErrArg
	}
	up := 64 - size
	return shifted(t, n, size, func(x uint64) uint64 { // at the top its highest bit comes again and again
		return uint64(int64(x<<up)>>up>>n) & low(size)
	})
}

// shifted asks shift only for an n that is below the size: Go's own shifts panic below 0.
func shifted(t api.Tnum, n, size int, shift func(uint64) uint64) (api.Tnum, api.Errno) {
	if n < 0 || n >= size {
		return api.Tnum{}, api.ErrArg
	}
	return each(t, shift)
}
