package mag

// maxShift is the farthest that Up and Down go.
const maxShift = 8192

// Up: times two to the power of n.
func Up(a Mag, n int) Mag {
	a, n = trim(a), shiftOf(n)
	words := n / wordBits
	out := make(Mag, words+len(a)+1)
	copy(out[words:], a)
	moveUp(out[words:], n%wordBits)
	return trim(out)
}

// Down: divided by two to the power of n.
func Down(a Mag, n int) Mag {
	a, n = trim(a), shiftOf(n)
	words := n / wordBits
	if words >= len(a) {
		return nil
	}
	out := clone(a[words:])
	moveDown(out, n%wordBits)
	return trim(out)
}

// shiftOf brings n to what may be.
func shiftOf(n int) int {
	return max(0, min(n, maxShift))
}

// moveUp moves the bits of a, one word or more, up by n, 0 to 63; those that go beyond its end are lost.
func moveUp(a Mag, n int) {
	for i := len(a) - 1; i > 0; i-- {
		a[i] = a[i]<<n | a[i-1]>>(wordBits-n)
	}
	a[0] <<= n
}

// moveDown moves the bits of a, one word or more, down by n, 0 to 63.
func moveDown(a Mag, n int) {
	for i := 0; i+1 < len(a); i++ {
		a[i] = a[i]>>n | a[i+1]<<(wordBits-n)
	}
	a[len(a)-1] >>= n
}
