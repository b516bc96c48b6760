package asm

import (
	"strconv"
	"strings"
)

// text is what is left of a line: its calls take off its beginning what they are named for, or give up.
type text struct{ rest string }

func (t *text) ahead(s string) bool { return strings.HasPrefix(t.rest, s) }

func (t *text) skip(s string) {
	if !t.ahead(s) {
		panic(noLine)
	}
	t.rest = t.rest[len(s):]
}

func (t *text) register() byte {
	t.skip("r")
	return byte(t.upTo(255))
}

func (t *text) constant() int32 {
	if t.ahead("-") {
		return int32(t.downTo(1 << 31))
	}
	return int32(t.upTo(1<<31 - 1))
}

func (t *text) offset() int16 {
	if t.ahead("-") {
		return int16(t.downTo(1 << 15))
	}
	t.skip("+")
	return int16(t.upTo(1<<15 - 1))
}

// downTo takes a number below 0 that is no further from it than most.
func (t *text) downTo(most uint64) int64 {
	t.skip("-")
	n := t.upTo(most)
	if n == 0 {
		panic(noLine)
	}
	return -int64(n)
}

// upTo takes digits in their one form.
func (t *text) upTo(most uint64) uint64 {
	rest := strings.TrimLeft(t.rest, digits)
	own := t.rest[:len(t.rest)-len(rest)]
	n, e := strconv.ParseUint(own, 10, 64)
	if e != nil || n > most || strconv.FormatUint(n, 10) != own {
		panic(noLine)
	}
	t.rest = rest
	return n
}
