package shape

import (
	"iter"

	"stockade/api"
	"stockade/insn"
)

// arrayKey is how many bytes an array's key has: it is a number of 32 bits.
const arrayKey = 4

// begins goes through the places at which instructions begin, each with what stands there.
func begins(code []api.Insn) iter.Seq2[int, api.Insn] {
	return func(yield func(int, api.Insn) bool) {
		at := 0
		for at < len(code) && yield(at, code[at]) {
			at += max(1, insn.Places(code[at])) // what is no instruction has no places, and takes one
		}
	}
}

// mayBe answers whether a map may be.
func mayBe(m api.Map) bool {
	switch m.Kind {
	case api.MapArray:
		if m.Key != arrayKey {
			return false
		}
	case api.MapHash, api.MapLru:
	default:
		return false
	}
	return upTo(m.Key, api.MaxKey) && upTo(m.Value, api.MaxValue) && upTo(m.Cap, api.MaxCap)
}

func upTo(n, most int) bool { return n >= 1 && n <= most }
