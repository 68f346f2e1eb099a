// Package crc is layer 2: sums that tell changed bytes: see shared/doc/02-crc.md.
package crc

// Table is what a byte does to a sum.
type Table [256]uint32

// divisor is what a number is put together with where a bit is another one than its lowest.
const divisor = 0x82F63B78

// New is the table of CRC-32C.
func New() Table {
	var t Table
	for i := range t {
		n := uint32(i)
		for range 8 {
			n = step(n)
		}
		t[i] = n
	}
	return t
}

// step is what a bit 0 makes of a number.
func step(n uint32) uint32 {
	if n&1 == 1 {
		return n>>1 ^ divisor
	}
	return n >> 1
}

// Sum is the sum of bytes, by a table.
func Sum(t Table, b []byte) uint32 {
	// Of no byte all ones are turned to noughts.
	return Behind(t, 0, b)
}

// Behind is the sum of bytes whose sum is known, and of others behind them.
func Behind(t Table, sum uint32, b []byte) uint32 {
	n := ^sum
	for _, c := range b {
		n = n>>8 ^ t[byte(n)^c]
	}
	return ^n
}
