package pack

import (
	"tourbillon/api"
)

const (
	groupBits = 7              // bits of a number in each byte
	more      = 1 << groupBits // set in every byte of a number except the last one
	maxBytes  = 9              // a number that needs more bytes has at least 2^63, which is greater than MaxNumber
)

// appendNumber appends the encoding of n to code.
func appendNumber(code []byte, n uint64) []byte {
	for n >= more {
		code = append(code, byte(n)|more)
		n >>= groupBits
	}
	return append(code, byte(n))
}

// reader returns a function that decodes the next number of s in each call; false: there is none, either as s is at its end or for the error.
func reader(s string) func() (int, bool, api.Errno) {
	at := 0
	return func() (int, bool, api.Errno) {
		if at == len(s) {
			return 0, false, api.OK
		}
		first := at
		for at < len(s) && s[at] >= more {
			at++
		}
		if at == len(s) {
			return 0, false, api.ErrShort
		}
		at++
		n, err := decode(s[first:at])
		return n, err == api.OK, err
	}
}

// decode returns the number of which code is the whole encoding; ErrForm if code is longer than necessary, ErrLong if the number is greater than MaxNumber.
func decode(code string) (int, api.Errno) {
	if len(code) > 1 && code[len(code)-1] == 0 {
		return 0, api.ErrForm
	}
	// The length comes first: groups behind the ninth would be shifted out unnoticed.
	if len(code) > maxBytes {
		return 0, api.ErrLong
	}
	n := uint64(0)
	for i := range len(code) {
		n |= uint64(code[i]%more) << (groupBits * i)
	}
	if n > api.MaxNumber {
		return 0, api.ErrLong
	}
	return int(n), api.OK
}
