package onetime

import (
	"gatepath/api"
	"gatepath/digest"
)

// base is that of the digits: a digit is a height of a chain.
const base = api.OneSteps + 1

// Digits returns the digits of a message.
func Digits(message []byte) []int {
	return digitsOf(digest.Short(message))
}

// digitsOf returns the digits of the messages that have this short digest.
func digitsOf(x api.Short) []int {
	out := make([]int, 0, api.OneChains)
	// Steps lead from each digit to a greater one only. The sum gets less by that, so that one of its digits does, too.
	sum := 0
	for _, b := range x {
		high, low := int(b)/base, int(b)%base
		sum += 2*api.OneSteps - high - low
		out = append(out, high, low)
	}
	return append(out, sum/(base*base), sum/base%base, sum%base)
}
