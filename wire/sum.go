package wire

// halves tells what four steps of the checksum's register add to it, by the four bits that these steps shift out. (Eight steps at once would need a table of 256 numbers.)
var halves = [16]uint32{
	0x00000000, 0x105ec76f, 0x20bd8ede, 0x30e349b1,
	0x417b1dbc, 0x5125dad3, 0x61c69362, 0x7198540d,
	0x82f63b78, 0x92a8fc17, 0xa24bb5a6, 0xb21572c9,
	0xc38d26c4, 0xd3d3e1ab, 0xe330a81a, 0xf36e6f75,
}

// Sum returns the CRC-32C checksum of s.
func Sum(s string) int {
	r := ^uint32(0)
	for i := range len(s) {
		r ^= uint32(s[i])
		r = r>>4 ^ halves[r%16]
		r = r>>4 ^ halves[r%16]
	}
	return int(^r)
}
