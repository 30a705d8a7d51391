// Package value is layer 1: see shared/doc/01-value.md.
package value

import "gantlet/api"

// half is how many addresses a generation has: an address stands in the low bits of a reference, a generation above them.
const half = api.MaxAddr + 1

// Check: may a value be?
func Check(v api.Val) api.Errno {
	switch v.K {
	case api.Ref:
		if v.N != 0 && !names(v.N) {
			return api.ErrKind
		}
		fallthrough
	case api.Int:
		return api.OK
	}
	return api.ErrKind
}

// names tells whether a number is that of a reference to an object.
func names(n int) bool {
	return n > 0 && fits(n/half, n%half)
}

func fits(gen, addr int) bool {
	return gen >= 1 && gen <= api.MaxGen && addr >= 1 && addr <= api.MaxAddr
}

// Number: a number.
func Number(n int) api.Val { return api.Val{K: api.Int, N: n} }

// Nil: the reference to nothing.
func Nil() api.Val { return api.Val{K: api.Ref} }

// Of: a reference.
func Of(gen, addr int) (api.Val, api.Errno) {
	if !fits(gen, addr) {
		return api.Val{}, api.ErrArg
	}
	return api.Val{K: api.Ref, N: gen*half + addr}, api.OK
}

// Gen: a reference's generation.
func Gen(v api.Val) int {
	if v.K != api.Ref || !names(v.N) {
		return 0
	}
	return v.N / half
}

// Addr: a reference's address.
func Addr(v api.Val) int {
	if v.K != api.Ref || !names(v.N) {
		return 0
	}
	return v.N % half
}

// IsNil: is it nil?
func IsNil(v api.Val) bool { return v == Nil() }

func numbers(a, b api.Val) bool { return a.K == api.Int && b.K == api.Int }

// Add: a sum, that goes round.
func Add(a, b api.Val) (api.Val, api.Errno) {
	if !numbers(a, b) {
		return api.Val{}, api.ErrKind
	}
	return Number(a.N + b.N), api.OK
}

// Sub: a difference, that goes round.
func Sub(a, b api.Val) (api.Val, api.Errno) {
	if !numbers(a, b) {
		return api.Val{}, api.ErrKind
	}
	return Number(a.N - b.N), api.OK
}

// Less: 1, if a is below b.
func Less(a, b api.Val) (api.Val, api.Errno) {
	if !numbers(a, b) {
		return api.Val{}, api.ErrKind
	}
	return truth(a.N < b.N), api.OK
}

// Equal: 1, if both are the same.
func Equal(a, b api.Val) api.Val { return truth(a == b) }

func truth(is bool) api.Val {
	if is {
		return Number(1)
	}
	return Number(0)
}

// Zero: is it nil, or 0?
func Zero(v api.Val) bool { return IsNil(v) || v == Number(0) }

// Same: are both rows the same?
func Same(a, b []api.Val) bool {
	if len(a) != len(b) {
		return false
	}
	for i, v := range a {
		if v != b[i] {
			return false
		}
	}
	return true
}
