package link

// width is how far below the greatest number that was taken others are still told apart; further below all count as taken.
const width = 64

// window is which numbers were taken: the greatest one (0: none was), and bit k of the one that is k below it.
type window struct {
	greatest int
	bits     uint64
}

// has: was a number taken, or is it too far below?
func (w window) has(number int) bool {
	below := w.greatest - number
	if below < 0 {
		return false
	}
	return below >= width || w.bits>>below&1 != 0
}

// add takes a number that was not taken.
func (w *window) add(number int) {
	if number > w.greatest {
		w.bits <<= number - w.greatest
		w.greatest = number
	}
	w.bits |= 1 << (w.greatest - number)
}
