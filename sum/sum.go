// Package sum: sums of bytes: see ../../shared/doc/01-sum.md.
package sum

// Net is the sum that stands in headers.
func Net(b []byte) uint16 { return Fold(Part(0, b)) }

// Part adds the numbers of 16 bits of b to s; it never has more than 16 bits left.
func Part(s uint32, b []byte) uint32 {
	s = low(s)
	for len(b) > 1 {
		s = low(s + uint32(b[0])<<8 + uint32(b[1]))
		b = b[2:]
	}
	if len(b) == 1 {
		s = low(s + uint32(b[0])<<8)
	}
	return s
}

// low adds the high half to the low one till nothing is high.
func low(s uint32) uint32 {
	for s > 0xffff {
		s = s>>16 + s&0xffff
	}
	return s
}

// Fold is a sum as it is written.
func Fold(s uint32) uint16 { return ^uint16(low(s)) }

// Fix is the sum of bytes in which one number is changed (RFC 1624): it needs none of the other bytes.
func Fix(sum, old, now uint16) uint16 {
	return Fold(uint32(^sum) + uint32(^old) + uint32(now))
}

const castagnoli = 0x82f63b78

// Crc is the CRC-32C of b.
func Crc(b []byte) uint32 {
	c := ^uint32(0)
	for _, x := range b {
		c ^= uint32(x)
		for range 8 {
			odd := c & 1
			c = c>>1 ^ odd*castagnoli
		}
	}
	return ^c
}

const (
	mixStart = 0x811c9dc5
	mixStep  = 0x01000193
	mixEnd   = 0x85ebca6b
)

// Mix spreads b over 32 bits, in another way for each seed.
func Mix(seed uint32, b []byte) uint32 {
	h := seed ^ mixStart
	for _, x := range b {
		h = (h ^ uint32(x)) * mixStep
	}
	h = (h ^ h>>15) * mixEnd
	return h ^ h>>13
}
