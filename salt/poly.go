package salt

import "math/bits"

const tagSize = 16

// wide is a number of two words.
type wide struct {
	low, high uint64
}

// number is a number of three words.
type number struct {
	low, high, top uint64
}

// authenticator is a Poly1305 tag under way.
type authenticator struct {
	sum    number // below 2^131 - 10: only partly reduced modulo 2^130 - 5
	factor wide
	final  wide // added at the end
}

func newAuthenticator(key [32]byte) *authenticator {
	return &authenticator{
		// RFC 8439, 2.5 clears these bits, so that no sum in times overflows.
		factor: wide{word64(key[:]) & 0x0ffffffc0fffffff, word64(key[8:]) & 0x0ffffffc0ffffffc},
		final:  wide{word64(key[16:]), word64(key[24:])},
	}
}

// write takes p. Nothing may be written after a p whose last block isn't full.
func (a *authenticator) write(p []byte) {
	for len(p) >= tagSize {
		a.add(number{word64(p), word64(p[8:]), 1})
		p = p[tagSize:]
	}
	if len(p) > 0 {
		var last [tagSize]byte
		last[copy(last[:], p)] = 1
		a.add(number{word64(last[:]), word64(last[8:]), 0})
	}
}

// writePadded takes p, filled up with zeros to full blocks.
func (a *authenticator) writePadded(p []byte) {
	whole := len(p) - len(p)%tagSize
	a.write(p[:whole])
	if whole < len(p) {
		var last [tagSize]byte
		copy(last[:], p[whole:])
		a.write(last[:])
	}
}

// add takes a block as a number.
func (a *authenticator) add(block number) {
	low, carry := bits.Add64(a.sum.low, block.low, 0)
	high, carry := bits.Add64(a.sum.high, block.high, carry)
	top := a.sum.top + block.top + carry
	a.sum = times(number{low, high, top}, a.factor)
}

// tag returns the tag of what was written.
func (a *authenticator) tag() [tagSize]byte {
	sum := reduce(a.sum).plus(a.final)
	var out [tagSize]byte
	putWord64(out[:8], sum.low)
	putWord64(out[8:], sum.high)
	return out
}

func product(x, y uint64) wide {
	high, low := bits.Mul64(x, y)
	return wide{low, high}
}

// plus returns the sum without its carry.
func (x wide) plus(y wide) wide {
	low, carry := bits.Add64(x.low, y.low, 0)
	high, _ := bits.Add64(x.high, y.high, carry)
	return wide{low, high}
}

// times returns x times y, partly reduced, for x below 2^131 and a factor y.
func times(x number, y wide) number {
	// The words of a factor are below 2^60, so these sums have two words and the last product has one.
	m0 := product(x.low, y.low)
	m1 := product(x.high, y.low).plus(product(x.low, y.high))
	m2 := product(x.top, y.low).plus(product(x.high, y.high))
	m3 := x.top * y.high

	t1, carry := bits.Add64(m0.high, m1.low, 0)
	t2, carry := bits.Add64(m1.high, m2.low, carry)
	t3, _ := bits.Add64(m2.high, m3, carry)
	return fold(wide{m0.low, t1}, wide{t2, t3})
}

// fold returns low + 2^128 high, partly reduced: five times the bits from 130 on are added to those below, as 2^130 is 5 modulo 2^130 - 5.
func fold(low, high wide) number {
	four := wide{high.low &^ 3, high.high}
	one := wide{high.low>>2 | high.high<<62, high.high >> 2}
	five := four.plus(one)

	first, carry := bits.Add64(low.low, five.low, 0)
	second, carry := bits.Add64(low.high, five.high, carry)
	return number{first, second, high.low&3 + carry}
}

// reduce returns the lowest two words of x modulo 2^130 - 5, for a partly reduced x.
func reduce(x number) wide {
	low, carry := bits.Add64(x.low, 5, 0)
	high, carry := bits.Add64(x.high, 0, carry)
	// To subtract 2^130 - 5 is to add 5 and leave 2^130 out; x + 5 has that bit just if x is not reduced.
	// There is no branch, so that the time doesn't tell.
	large := -((x.top + carry) >> 2)
	return wide{x.low ^ (x.low^low)&large, x.high ^ (x.high^high)&large}
}
