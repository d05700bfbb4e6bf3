package cpu

import (
	"squeal/api"
)

// nothing is what a bus has on it where nobody puts a byte there.
const nothing = 255

// Flat is a bus that never holds.
type Flat struct {
	M     [api.Space]uint8
	Ports []uint8 // what the ports answer yet
	Acts  []api.Act
	T     uint64
	Line  bool
}

// Step goes to the end of an instruction, and tells how many T-states that took.
func (f *Flat) Step(c *CPU) int {
	if f == nil || c == nil {
		return 0
	}
	n := 0
	for n == 0 || !c.Done() {
		c.Tick(f)
		f.T++
		n++
	}
	return n
}

// Hold never holds.
func (f *Flat) Hold(kind int, addr uint16, k int) int {
	return 0
}

// Read is the byte at an address.
func (f *Flat) Read(addr uint16) uint8 {
	if f == nil {
		return nothing
	}
	return f.M[addr]
}

// Write puts a byte at an address.
func (f *Flat) Write(addr uint16, v uint8) {
	if f == nil {
		return
	}
	f.M[addr] = v
}

// In is the next byte that the ports answer.
func (f *Flat) In(port uint16) uint8 {
	if f == nil {
		return nothing
	}
	v := uint8(nothing)
	if len(f.Ports) > 0 {
		v = f.Ports[0]
		f.Ports = f.Ports[1:]
	}
	f.act(false, port, v)
	return v
}

// Out has a byte go out to a port.
func (f *Flat) Out(port uint16, v uint8) {
	if f == nil {
		return
	}
	f.act(true, port, v)
}

// act puts behind the acts what a port did.
func (f *Flat) act(out bool, port uint16, v uint8) {
	f.Acts = append(f.Acts, api.Act{T: f.T, Out: out, Port: port, V: v})
}

// Int tells whether an interrupt is asked for.
func (f *Flat) Int() bool {
	return f != nil && f.Line
}
