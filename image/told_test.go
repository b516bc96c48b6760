package image_test

import (
	"bytes"
	"encoding/binary"
	"slices"

	"stockade/api"
)

// What follows says the chapter's words, one by one, apart from how the package goes about them.

// toldForm: the form, whatever the image.
func toldForm(img api.Image) []byte {
	var b bytes.Buffer
	b.WriteByte(byte(len(img.Maps)))
	for _, m := range img.Maps {
		b.Write([]byte{byte(m.Kind), byte(m.Key), byte(m.Value), byte(m.Cap)})
	}
	_ = binary.Write(&b, binary.LittleEndian, uint16(len(img.Code)))
	for _, i := range img.Code {
		b.Write([]byte{i.Op, i.Dst&15 | i.Src<<4})
		_ = binary.Write(&b, binary.LittleEndian, i.Off)
		_ = binary.Write(&b, binary.LittleEndian, i.Imm)
	}
	return b.Bytes()
}

func toldEncode(img api.Image) ([]byte, api.Errno) {
	if len(img.Maps) > mostMaps || len(img.Code) > mostCode {
		return nil, errLong
	}
	isByte := func(n int) bool { return n == int(byte(n)) }
	if slices.ContainsFunc(img.Maps, func(m api.Map) bool { return !isByte(m.Kind) || !isByte(m.Key) || !isByte(m.Value) || !isByte(m.Cap) }) {
		return nil, errMap
	}
	if slices.ContainsFunc(img.Code, func(i api.Insn) bool { return max(i.Dst, i.Src) > 15 }) {
		return nil, errReg
	}
	return toldForm(img), 0
}

// toldDecode: by where in b each part of the form stands.
func toldDecode(b []byte) (api.Image, api.Errno) {
	switch {
	case len(b) > mostData:
		return api.Image{}, errLong
	case len(b) == 0:
		return api.Image{}, errShort
	case b[0] > mostMaps:
		return api.Image{}, errForm
	}
	at := 1 + 4*int(b[0])
	if len(b) < at+2 {
		return api.Image{}, errShort
	}
	places := int(binary.LittleEndian.Uint16(b[at:]))
	end := at + 2 + 8*places
	switch {
	case places > mostCode:
		return api.Image{}, errForm
	case len(b) < end:
		return api.Image{}, errShort
	case len(b) > end:
		return api.Image{}, errForm
	}
	var img api.Image
	for m := range slices.Chunk(b[1:at], 4) {
		img.Maps = append(img.Maps, api.Map{Kind: int(m[0]), Key: int(m[1]), Value: int(m[2]), Cap: int(m[3])})
	}
	for p := range slices.Chunk(b[at+2:], 8) {
		img.Code = append(img.Code, api.Insn{Op: p[0], Dst: p[1] % 16, Src: p[1] / 16,
			Off: int16(binary.LittleEndian.Uint16(p[2:])), Imm: int32(binary.LittleEndian.Uint32(p[4:]))})
	}
	return img, 0
}
