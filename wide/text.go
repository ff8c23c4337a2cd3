package wide

import (
	"slices"
	"strconv"
	"strings"

	"quintadena/api"
)

// Decimal digits are read and written in groups that fit in a limb.
const (
	groupDigits = 9
	groupBase   = 1000000000
)

// Text returns the decimal digits of a.
func Text(a api.Nat) (string, api.Errno) {
	if e := examine(a); e != api.OK {
		return "", e
	}
	if isZero(a) {
		return "0", api.OK
	}
	var groups []string
	rest, low := a, uint32(0)
	for !isZero(rest) {
		rest, low = divideByLimb(rest, groupBase)
		groups = append(groups, groupText(low))
	}
	slices.Reverse(groups)
	return strings.TrimLeft(strings.Join(groups, ""), "0"), api.OK
}

// Parse returns the number whose text is s.
func Parse(s string) (api.Nat, api.Errno) {
	if len(s) > api.MaxDigits {
		return nil, api.ErrLong
	}
	if s == "" || s[0] == '0' && s != "0" {
		return nil, api.ErrForm
	}
	base := Of(groupBase)
	var a api.Nat
	for s != "" {
		// The first group is the one that may be shorter.
		n := (len(s)-1)%groupDigits + 1
		group, err := strconv.ParseUint(s[:n], 10, limbBits)
		if err != nil {
			return nil, api.ErrForm
		}
		a = sum(product(a, base), Of(group))
		s = s[n:]
	}
	return a, api.OK
}

// groupText returns all digits of a group, with the zeros in front.
func groupText(n uint32) string {
	s := strconv.FormatUint(uint64(n), 10)
	return strings.Repeat("0", groupDigits-len(s)) + s
}
