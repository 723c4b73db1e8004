// Package crc is layer 1: CRC-32C checksums (Castagnoli); see shared/doc/01-crc.md.
package crc

// polynomial has the coefficient of x^0 in its highest bit and that of x^31 in its lowest one, as all values here.
const polynomial = 0x82F63B78

// one and byteShift are the polynomials x^0 and x^8.
const (
	one       = 1 << 31
	byteShift = 1 << 23
)

// maxLength is the greatest length of a second message that Combine accepts.
const maxLength = 1 << 20

// fourSteps has, for each value of the lowest four bits, what four single-bit steps make of it.
// A table by whole bytes would halve the lookups, but needs 256 words.
var fourSteps = [16]uint32{
	0x00000000, 0x105EC76F, 0x20BD8EDE, 0x30E349B1,
	0x417B1DBC, 0x5125DAD3, 0x61C69362, 0x7198540D,
	0x82F63B78, 0x92A8FC17, 0xA24BB5A6, 0xB21572C9,
	0xC38D26C4, 0xD3D3E1AB, 0xE330A81A, 0xF36E6F75,
}

// Update returns the checksum of a message with the checksum c, followed by b.
func Update(c uint32, b []byte) uint32 {
	c = ^c
	for _, x := range b {
		c ^= uint32(x)
		c = c>>4 ^ fourSteps[c&15]
		c = c>>4 ^ fourSteps[c&15]
	}
	return ^c
}

// Sum returns the checksum of b.
func Sum(b []byte) uint32 {
	return Update(0, b)
}

// Combine returns the checksum of a message with the checksum x, followed by one of n bytes with the checksum y.
func Combine(x, y uint32, n int) uint32 {
	if n < 0 || n > maxLength {
		return 0
	}
	// The inversions at the end of the first message and at the beginning of the second one cancel out,
	// so the first checksum only moves on by n zero bytes.
	return multiply(x, shiftBy(n)) ^ y
}

// shiftBy returns x^(8n) modulo the polynomial, by repeated squaring.
func shiftBy(n int) uint32 {
	product, power := uint32(one), uint32(byteShift)
	for ; n > 0; n >>= 1 {
		if n&1 == 1 {
			product = multiply(product, power)
		}
		power = multiply(power, power)
	}
	return product
}

// multiply returns the product of two polynomials modulo the polynomial.
func multiply(a, b uint32) uint32 {
	product := uint32(0)
	for ; b != 0; b <<= 1 {
		if b&one != 0 {
			product ^= a
		}
		a = step(a)
	}
	return product
}

// step shifts by one bit, which multiplies by x.
func step(c uint32) uint32 {
	if c&1 == 1 {
		return c>>1 ^ polynomial
	}
	return c >> 1
}
