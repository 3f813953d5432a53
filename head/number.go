package head

import "colonnade/api"

// Need returns the number of bytes needed for pn, if acked is the largest acknowledged number (some: if there is one).
func Need(pn, acked uint64, some bool) int {
	size := 1
	for size < mostSize && !reaches(pn, acked, some, size) {
		size++
	}
	return size
}

// Cut returns the lowest size bytes of pn.
func Cut(pn uint64, size int) uint64 {
	return pn & (window(size) - 1)
}

// Grow returns the packet number of which cut is the lowest size bytes, if largest is the largest number received (some: if there is one).
func Grow(largest uint64, some bool, cut uint64, size int) uint64 {
	var next uint64
	if some {
		next = min(largest, api.MaxNum) + 1
	}
	w := window(size)
	n := next - Cut(next, size) + Cut(cut, size)
	switch {
	case n+w/2 <= next && n < 1<<62-w:
		return n + w
	case n > next+w/2 && n >= w:
		return n - w
	}
	return min(n, api.MaxNum)
}

// reaches reports whether size bytes distinguish twice as many numbers as pn is beyond acked.
func reaches(pn, acked uint64, some bool, size int) bool {
	half := window(size) / 2
	// Halves are compared, since doubles might wrap round; so might the number after pn.
	if !some {
		return pn < half
	}
	return pn <= acked || pn-acked <= half
}

// window returns how many numbers size bytes distinguish.
func window(size int) uint64 {
	return 1 << (8 * max(1, min(size, mostSize)))
}

// appendNumber appends the lowest size bytes of pn to p.
func appendNumber(p []byte, pn uint64, size int) []byte {
	for i := range size {
		p = append(p, byte(pn>>(8*(size-1-i))))
	}
	return p
}
