// Package varint is layer 1, numbers as few bytes: see shared/doc/01-varint.md.
package varint

import (
	"iter"

	"careen/api"
)

const (
	digitBits = 7              // of a digit to the base 128
	base      = 1 << digitBits // also what is more in each byte but the last one
	maxBytes  = 8              // as many as the greatest number has
)

// Put is a number's bytes.
func Put(n int) (string, api.Errno) {
	if n < 0 || n > api.MaxNum {
		return "", api.ErrArg
	}
	b := make([]byte, 0, maxBytes)
	for c := range bytesOf(n) {
		b = append(b, c)
	}
	return string(b), api.OK
}

// Take is the number at a text's beginning, and how many bytes it has.
func Take(s string) (int, int, api.Errno) {
	n, k, last := 0, 0, byte(base)
	for i, c := range bytesAhead(s) {
		n |= int(c%base) << (digitBits * i)
		k, last = i+1, c
	}
	switch {
	case last >= base && k < maxBytes: // no byte was the last one, and all were looked at
		return 0, 0, api.ErrCut
	case last >= base:
		return 0, 0, api.ErrForm
	case last == 0 && k > 1: // the number has fewer bytes
		return 0, 0, api.ErrForm
	case n > api.MaxNum: // eight bytes hold more than the greatest number
		return 0, 0, api.ErrForm
	}
	return n, k, api.OK
}

// bytesOf tells the bytes of a number that is not negative.
func bytesOf(n int) iter.Seq[byte] {
	return func(yield func(byte) bool) {
		for ; n >= base; n /= base {
			if !yield(byte(n%base + base)) {
				return
			}
		}
		yield(byte(n))
	}
}

// bytesAhead tells a text's bytes, with their places, up to the first one that may be a number's last one. It stops where no number has more bytes, so that long texts cost no more than short ones.
func bytesAhead(s string) iter.Seq2[int, byte] {
	return func(yield func(int, byte) bool) {
		for i := range min(len(s), maxBytes) {
			if !yield(i, s[i]) || s[i] < base {
				return
			}
		}
	}
}
