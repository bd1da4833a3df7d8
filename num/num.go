// Package num performs integer arithmetic with overflow detection, and formats and parses decimal integers. It is layer 1; see shared/doc/01-num.md.
package num

import (
	"strconv"

	"retroact/api"
)

// Add is specified in P1.1 of shared/doc/01-num.md.
func Add(a, b int) (int, bool) {
	if !inRange(a) || !inRange(b) {
		return 0, false
	}
	return checked(a + b)
}

// Sub is specified in P1.1 of shared/doc/01-num.md.
func Sub(a, b int) (int, bool) {
	if !inRange(a) || !inRange(b) {
		return 0, false
	}
	return checked(a - b)
}

// Mul is specified in P1.1 of shared/doc/01-num.md.
func Mul(a, b int) (int, bool) {
	if !inRange(a) || !inRange(b) {
		return 0, false
	}
	// A product of operands in range can exceed 64 bits, so its size is found before it is computed.
	if a != 0 && abs(b) > api.MaxNum/abs(a) {
		return 0, false
	}
	return a * b, true
}

// Div is specified in P1.2 of shared/doc/01-num.md.
func Div(a, b int) (int, bool) {
	if !inRange(a) || !inRange(b) || b == 0 {
		return 0, false
	}
	return a / b, true
}

// Mod is specified in P1.2 of shared/doc/01-num.md.
func Mod(a, b int) (int, bool) {
	if !inRange(a) || !inRange(b) || b == 0 {
		return 0, false
	}
	return a % b, true
}

// Neg is specified in P1.1 of shared/doc/01-num.md.
func Neg(a int) (int, bool) { return checked(-a) }

// Text is specified in P1.3 of shared/doc/01-num.md.
func Text(n int) string { return strconv.Itoa(n) }

// Parse is specified in P1.3 of shared/doc/01-num.md.
func Parse(s string, low, high int) (int, bool) {
	if !canonical(s) {
		return 0, false
	}
	n, err := strconv.Atoi(s)
	if err != nil || n < low || n > high {
		return 0, false
	}
	return n, true
}

// Clamp is specified in P1.4 of shared/doc/01-num.md.
func Clamp(n, low, high int) int {
	if n < low {
		return low
	}
	if n > high {
		return high
	}
	return n
}

func inRange(n int) bool { return -api.MaxNum <= n && n <= api.MaxNum }

func checked(n int) (int, bool) {
	if !inRange(n) {
		return 0, false
	}
	return n, true
}

// abs is called only for integers in range, where the sign can be changed without an overflow.
func abs(n int) int {
	if n < 0 {
		return -n
	}
	return n
}

// canonical reports whether s is a canonical decimal form, of an integer of any size.
func canonical(s string) bool {
	if s == "0" {
		return true
	}
	digits := s
	if digits != "" && digits[0] == '-' {
		digits = digits[1:]
	}
	if digits == "" || digits[0] == '0' {
		return false
	}
	for _, r := range digits {
		if r < '0' || r > '9' {
			return false
		}
	}
	return true
}
