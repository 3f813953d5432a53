package salt

// word32 returns the four bytes at the beginning of p as a number, little-endian.
func word32(p []byte) uint32 {
	return uint32(p[0]) | uint32(p[1])<<8 | uint32(p[2])<<16 | uint32(p[3])<<24
}

// word64 returns the eight bytes at the beginning of p as a number, little-endian.
func word64(p []byte) uint64 {
	return uint64(word32(p)) | uint64(word32(p[4:]))<<32
}

// putWord32 writes n to the four bytes at the beginning of p, little-endian.
func putWord32(p []byte, n uint32) {
	p[0], p[1], p[2], p[3] = byte(n), byte(n>>8), byte(n>>16), byte(n>>24)
}

// putWord64 writes n to the eight bytes at the beginning of p, little-endian.
func putWord64(p []byte, n uint64) {
	putWord32(p, uint32(n))
	putWord32(p[4:], uint32(n>>32))
}
