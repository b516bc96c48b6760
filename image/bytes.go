package image

import (
	"math"

	"stockade/api"
	"stockade/insn"
)

// How many bytes of the form are a map's, and a place's.
const (
	mapBytes   = 4
	placeBytes = 8
)

func putMaps(b []byte, maps []api.Map) ([]byte, api.Errno) {
	b = append(b, byte(len(maps)))
	for _, m := range maps {
		for _, n := range [mapBytes]int{m.Kind, m.Key, m.Value, m.Cap} {
			if n < 0 || n > math.MaxUint8 {
				return nil, api.ErrMap
			}
			b = append(b, byte(n))
		}
	}
	return b, api.OK
}

func putCode(b []byte, code []api.Insn) ([]byte, api.Errno) {
	b = append(b, byte(len(code)), byte(len(code)>>8))
	for _, i := range code {
		form, e := insn.Encode(i)
		if e != api.OK {
			return nil, e
		}
		b = append(b, form...)
	}
	return b, api.OK
}

// taker takes the next bytes, so many, or tells that there are not so many left.
type taker func(n int) ([]byte, api.Errno)

func takeImage(take taker) (api.Image, api.Errno) {
	maps, e := takeMaps(take)
	if e != api.OK {
		return api.Image{}, e
	}
	code, e := takeCode(take)
	if e != api.OK {
		return api.Image{}, e
	}
	return api.Image{Maps: maps, Code: code}, api.OK
}

func takeMaps(take taker) ([]api.Map, api.Errno) {
	count, e := takeCount(take, 1, api.MaxMaps)
	if e != api.OK {
		return nil, e
	}
	var maps []api.Map
	for range count {
		b, e := take(mapBytes)
		if e != api.OK {
			return nil, e
		}
		maps = append(maps, api.Map{Kind: int(b[0]), Key: int(b[1]), Value: int(b[2]), Cap: int(b[3])})
	}
	return maps, api.OK
}

func takeCode(take taker) ([]api.Insn, api.Errno) {
	count, e := takeCount(take, 2, api.MaxCode)
	if e != api.OK {
		return nil, e
	}
	var code []api.Insn
	for range count {
		b, e := take(placeBytes)
		if e != api.OK {
			return nil, e
		}
		i, e := insn.Decode(b)
		if e != api.OK {
			return nil, e
		}
		code = append(code, i)
	}
	return code, api.OK
}

// takeCount takes a number of so many bytes, the lowest one first, which may not be above most.
func takeCount(take taker, size, most int) (int, api.Errno) {
	b, e := take(size)
	if e != api.OK {
		return 0, e
	}
	n := 0
	for k, x := range b {
		n |= int(x) << (8 * k)
	}
	if n > most {
		return 0, api.ErrForm
	}
	return n, api.OK
}
