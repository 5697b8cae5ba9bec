package mag

import "math/bits"

// Gcd: the greatest number that divides both.
func Gcd(a, b Mag) Mag {
	a, b = trim(a), trim(b)
	if Cmp(a, b) < 0 {
		a, b = b, a
	}
	for len(b) > 1 {
		a, b = nearer(a, b)
	}
	if len(b) == 0 {
		return clone(a)
	}
	_, rest := divWord(a, b[0])
	return Of(gcdWords(b[0], rest))
}

func gcdWords(a, b uint64) uint64 {
	for b != 0 {
		a, b = b, a%b
	}
	return a
}

// nearer is another pair of which the same numbers divide both, the first one being the greater one still.
// b has two words or more, a is no less. It goes as many steps of Euclid's at once as the highest words tell for sure (Lehmer's way), or else one step.
func nearer(a, b Mag) (Mag, Mag) {
	top := len(a) - 1
	n := bits.LeadingZeros64(a[top])
	x, y, odd := leap(head(a, top, n), head(b, top, n))
	if y[0] == 0 {
		_, rest := Div(a, b)
		return b, rest
	}
	if odd {
		return mix(b, y[0], a, x[0]), mix(a, x[1], b, y[1])
	}
	return mix(a, x[0], b, y[0]), mix(b, y[1], a, x[1])
}

// head is the word that begins n bits below the end of a's word number top.
func head(a Mag, top, n int) uint64 {
	return at(a, top)<<n | at(a, top-1)>>(wordBits-n)
}

// at is a word of a, 0 beyond its end.
func at(a Mag, i int) uint64 {
	if i < len(a) {
		return a[i]
	}
	return 0
}

// leap goes Euclid's steps from two numbers' heads alone, as long as what comes of them is sure to hold for the numbers, too.
// These become x[0] of the first less y[0] of the second, and y[1] of the second less x[1] of the first; after odd steps the other way round.
func leap(a, b uint64) (x, y [2]uint64, odd bool) {
	x, y = [2]uint64{1, 0}, [2]uint64{0, 1}
	for b != 0 {
		q, rest := a/b, a%b
		nextX, nextY := x[0]+q*x[1], y[0]+q*y[1]
		// What is cut off below the heads counts for less than y of each: past this bound the rests might change places, or fall below 0.
		if rest < nextY || b-rest < y[1]+nextY {
			break
		}
		a, b = b, rest
		x, y = [2]uint64{x[1], nextX}, [2]uint64{y[1], nextY}
		odd = !odd
	}
	return x, y, odd
}

// mix is p of a less q of b, which is known to be no less than 0.
func mix(a Mag, p uint64, b Mag, q uint64) Mag {
	out := make(Mag, max(len(a), len(b))+1)
	out[len(a)] = addTimes(out[:len(a)], a, p)
	over := takeTimes(out[:len(b)], b, q)
	takeFrom(out[len(b):], Mag{over})
	return trim(out)
}
