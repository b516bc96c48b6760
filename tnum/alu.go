package tnum

import "stockade/api"

// Add: P9.3.
func Add(a, b api.Tnum) (api.Tnum, api.Errno) {
	return both(a, b, func() api.Tnum { return sum(a, b) })
}

// Sub: P9.3.
func Sub(a, b api.Tnum) (api.Tnum, api.Errno) {
	return both(a, b, func() api.Tnum {
		least, greatest := a.V-b.V-b.M, a.V+a.M-b.V
		return but(a.V-b.V, a.M|b.M|(least^greatest))
	})
}

// Mul: P9.4.
func Mul(a, b api.Tnum) (api.Tnum, api.Errno) {
	return both(a, b, func() api.Tnum {
		t := Of(0)
		for i := range 64 {
			up := api.Tnum{V: b.V << i, M: b.M << i}
			if a.V>>i&1 == 1 {
				t = sum(t, up)
			}
			if a.M>>i&1 == 1 {
				t = sum(t, but(0, up.V|up.M))
			}
		}
		return t
	})
}

// And: P9.3.
func And(a, b api.Tnum) (api.Tnum, api.Errno) {
	return both(a, b, func() api.Tnum {
		return but(a.V&b.V, (a.V|a.M)&(b.V|b.M)&(a.M|b.M))
	})
}

// Or: P9.3.
func Or(a, b api.Tnum) (api.Tnum, api.Errno) {
	return both(a, b, func() api.Tnum {
		ones := a.V | b.V
		return but(ones, (a.M|b.M)&^ones)
	})
}

// Xor: P9.3.
func Xor(a, b api.Tnum) (api.Tnum, api.Errno) {
	return both(a, b, func() api.Tnum { return but(a.V^b.V, a.M|b.M) })
}

// sum: at a bit that neither a nor b leaves any, the least and the greatest sum differ just where a carry may come or not.
func sum(a, b api.Tnum) api.Tnum {
	least := a.V + b.V
	return but(least, a.M|b.M|(least^(least+a.M+b.M)))
}
