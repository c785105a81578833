package budget

import (
	"slices"

	"fluxmast/api"
	"fluxmast/num"
)

// maxGirth is the greatest girth of a tree.
const maxGirth = 1 << 30

// Green returns the colour index of an image.
func Green(l [][3]uint8) (num.Frac, api.Errno) {
	if len(l) > api.MaxPixels {
		return num.Frac{}, api.ErrSize
	}
	var parts []num.Frac
	for _, pixel := range l {
		green := int(pixel[1])
		if sum := int(pixel[0]) + green + int(pixel[2]); sum > 0 {
			part, _ := whole(green).Div(whole(sum))
			parts = append(parts, part)
		}
	}
	if len(parts) == 0 {
		return num.Frac{}, api.ErrNone
	}
	total, _ := num.Sum(parts)
	return total.Div(whole(len(parts)))
}

// Grown returns how much trees grew from year to year, and the years in which they shrank.
func Grown(girths []int) (growth, shrank []int, e api.Errno) {
	if !between(len(girths), 1, api.MaxDays) {
		return nil, nil, api.ErrSize
	}
	if slices.ContainsFunc(girths, func(n int) bool { return !between(n, 0, maxGirth) }) {
		return nil, nil, api.ErrArg
	}
	for year := 1; year < len(girths); year++ {
		grown := girths[year] - girths[year-1]
		growth = append(growth, grown)
		if grown < 0 {
			shrank = append(shrank, year)
		}
	}
	return growth, shrank, api.OK
}
