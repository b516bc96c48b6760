package flow

import (
	"stockade/api"
	"stockade/scalar"
	"stockade/tnum"
)

// What a program is handed lies by places: the packet's length, the port, where the packet lies.
const (
	lengthAt = 0
	portAt   = 4
	packetAt = 8
)

const (
	slotSize = 8
	allBytes = 255 // the Have of a slot of whose bytes each holds something
)

// load tells what is known of what lies in memory.
func (p *point) load() (api.Reg, api.Errno) {
	from := p.s.Regs[p.i.Src]
	switch from.Kind {
	case api.None:
		return api.Reg{}, api.TrapEmpty
	case api.Ctx:
		return p.given()
	case api.Pkt, api.Cell:
		return below(p.w.Size), p.within(from)
	case api.Frame:
		return p.fromFrame(from, int64(p.i.Off), p.w.Size)
	}
	return api.Reg{}, api.TrapKind
}

// given tells what is known of what a program is handed.
func (p *point) given() (api.Reg, api.Errno) {
	off, size := p.i.Off, p.w.Size
	switch {
	case off == lengthAt && size == 4:
		s, _ := scalar.Settle(tnum.All(), api.Span{Lo: uint64(p.s.Packet), Hi: api.MaxPacket})
		return api.Reg{Kind: api.Num, Len: true, S: s}, api.OK
	case off == portAt && size == 4:
		return below(size), api.OK
	case off == packetAt && size == 8:
		return api.Reg{Kind: api.Pkt}, api.OK
	}
	return api.Reg{}, api.TrapBound
}

// within tells the reason of a place that may lie beyond the packet, or beyond a map's value.
func (p *point) within(r api.Reg) api.Errno {
	room := p.s.Packet
	if r.Kind == api.Cell {
		room = p.maps[r.Map].Value
	}
	off := int64(p.i.Off)
	if r.Lo+off < 0 || r.Hi+off+int64(p.w.Size) > int64(room) {
		return api.TrapBound
	}
	return api.OK
}

// inFrame tells the one place of the stack to which an address leads, that far behind it.
func inFrame(r api.Reg, off int64, size int) (int, api.Errno) {
	at, end := r.Lo+off, r.Lo+off+int64(size)
	switch {
	case r.Lo != r.Hi:
		return 0, api.TrapWild
	case at < 0 || end > api.Stack:
		return 0, api.TrapBound
	case at%int64(size) != 0:
		return 0, api.TrapAlign
	}
	return int(at), api.OK
}

// bytesOf tells which bytes of its slot a place is, as Have does.
func bytesOf(at, size int) byte { return byte(1<<size-1) << (at % slotSize) }

// fromFrame tells what is known of what lies on the stack.
func (p *point) fromFrame(from api.Reg, off int64, size int) (api.Reg, api.Errno) {
	at, e := inFrame(from, off, size)
	if e != api.OK {
		return api.Reg{}, e
	}
	slot, bytes := p.s.Stack[at/slotSize], bytesOf(at, size)
	switch {
	case slot.R.Kind == api.None && slot.Have&bytes != bytes:
		return api.Reg{}, api.TrapEmpty
	case slot.R.Kind == api.None:
		return below(size), api.OK
	case size == slotSize:
		return slot.R, api.OK
	}
	return below(size), mustBe(slot.R, api.Num)
}

// store tells what is known when something was laid in memory.
func (p *point) store() (api.State, api.Errno) {
	to, laid := p.s.Regs[p.i.Dst], p.operand()
	switch {
	case to.Kind == api.None:
		return api.State{}, api.TrapEmpty
	case to.Kind == api.Num || to.Kind == api.Ref || to.Kind == api.MaybeCell:
		return api.State{}, api.TrapKind
	case laid.Kind == api.None:
		return api.State{}, api.TrapEmpty
	case to.Kind == api.Ctx:
		return api.State{}, api.TrapWrite
	case to.Kind == api.Frame:
		return p.toFrame(to, laid)
	case laid.Kind != api.Num:
		return api.State{}, api.TrapKind
	}
	return p.s, p.within(to)
}

// toFrame tells what is known when something was laid on the stack.
func (p *point) toFrame(to, laid api.Reg) (api.State, api.Errno) {
	size := p.w.Size
	at, e := inFrame(to, int64(p.i.Off), size)
	switch {
	case e != api.OK:
		return api.State{}, e
	case laid.Kind != api.Num && size != slotSize:
		return api.State{}, api.TrapKind
	}
	s := p.s
	s.Stack[at/slotSize] = relaid(s.Stack[at/slotSize], bytesOf(at, size), laid)
	return s, api.OK
}

// relaid tells what is known of a slot when something was laid in these bytes of it; an address that was there is gone as a whole.
func relaid(s api.Slot, bytes byte, laid api.Reg) api.Slot {
	switch {
	case bytes == allBytes:
		return api.Slot{Have: allBytes, R: laid}
	case s.R.Kind == api.None || s.R.Kind == api.Num:
		return api.Slot{Have: s.Have | bytes}
	}
	return api.Slot{Have: bytes}
}
