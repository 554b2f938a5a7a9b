package field

// shifted: what four bits become when they are shifted out of the register one by one.
var shifted = [16]uint32{
	0x00000000, 0x1db71064, 0x3b6e20c8, 0x26d930ac, 0x76dc4190, 0x6b6b51f4, 0x4db26158, 0x5005713c,
	0xedb88320, 0xf00f9344, 0xd6d6a3e8, 0xcb61b38c, 0x9b64c2b0, 0x86d3d2d4, 0xa00ae278, 0xbdbdf21c,
}

// Sum: the checksum of all parts, one behind the other.
func Sum(parts ...[]byte) uint32 {
	register := ^uint32(0)
	for _, part := range parts {
		for _, b := range part {
			register = shiftFour(shiftFour(register ^ uint32(b)))
		}
	}
	return ^register
}

func shiftFour(register uint32) uint32 {
	return register>>4 ^ shifted[register&15]
}
