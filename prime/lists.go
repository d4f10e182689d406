package prime

import "reckoner/api"

// maxSpan is how far the ends of a list may be from one another.
const maxSpan = 100000

// Next returns the least prime number greater than n.
func Next(n uint64) (uint64, api.Errno) {
	if n < greatest {
		for p := range primes(n+1, greatest) {
			return p, api.OK
		}
	}
	return 0, api.ErrNone
}

// List returns the prime numbers from low to high, rising.
func List(low, high uint64) ([]uint64, api.Errno) {
	if high < low || high-low > maxSpan {
		return nil, api.ErrArg
	}
	var l []uint64
	for p := range primes(low, high) {
		l = append(l, p)
	}
	return l, api.OK
}
