package vm

import (
	"stockade/api"
	"stockade/mem"
)

// What a program is handed lies by places: the packet's length, the port, where the packet lies.
const (
	lengthAt = 0
	portAt   = 4
	packetAt = 8
)

// load tells what lies at an address, that far behind it.
func (m *Machine) load(from api.Value, off int64, size int) (api.Value, api.Errno) {
	off += from.Off
	switch from.Kind {
	case api.None:
		return api.Value{}, api.TrapEmpty
	case api.Ctx:
		return m.given(off, size)
	case api.Pkt:
		n, e := mem.Get(m.packet, off, size)
		return num(n), e
	case api.Frame:
		return mem.Load(m.frame, off, size)
	case api.Cell:
		n, e := m.tables[from.Map].Load(int(from.N), off, size)
		return num(n), e
	}
	return api.Value{}, api.TrapKind
}

// given tells what a program is handed.
func (m *Machine) given(off int64, size int) (api.Value, api.Errno) {
	switch {
	case off == lengthAt && size == 4:
		return num(uint64(len(m.packet))), api.OK
	case off == portAt && size == 4:
		return num(uint64(m.world.Port)), api.OK
	case off == packetAt && size == 8:
		return api.Value{Kind: api.Pkt}, api.OK
	}
	return api.Value{}, api.TrapBound
}

// store lays a value at an address, that far behind it.
func (m *Machine) store(to api.Value, off int64, size int, v api.Value) api.Errno {
	off += to.Off
	switch {
	case to.Kind == api.None:
		return api.TrapEmpty
	case to.Kind == api.Num || to.Kind == api.Ref:
		return api.TrapKind
	case v.Kind == api.None:
		return api.TrapEmpty
	case to.Kind == api.Ctx:
		return api.TrapWrite
	case to.Kind == api.Frame:
		return m.storeToFrame(off, size, v)
	case v.Kind != api.Num:
		return api.TrapKind
	case to.Kind == api.Pkt:
		return m.storeToPacket(off, size, v.N)
	}
	return m.tables[to.Map].Store(int(to.N), off, size, v.N)
}

func (m *Machine) storeToFrame(off int64, size int, v api.Value) api.Errno {
	f, e := mem.Store(m.frame, off, size, v)
	if e == api.OK {
		m.frame = f
	}
	return e
}

// storeToPacket has just the bytes that change put into new memory: a packet may be long.
func (m *Machine) storeToPacket(off int64, size int, n uint64) api.Errno {
	if _, e := mem.Get(m.packet, off, size); e != api.OK {
		return e
	}
	part := m.packet[off : off+int64(size)]
	laid, e := mem.Put(part, 0, size, n)
	copy(part, laid)
	return e
}
