package num

import (
	"math/big"
	"testing"
)

// bigLog is the logarithm of x by math/big, by steps of Newton's.
func bigLog(x *big.Rat) *big.Rat {
	log := new(big.Float).SetPrec(digits)
	for range 13 {
		near, _ := log.Rat(nil)
		rest := new(big.Float).SetPrec(digits).SetRat(x)
		rest.Quo(rest, bigExp(near))
		log.Add(log, rest.Sub(rest, new(big.Float).SetPrec(digits).SetInt64(1)))
	}
	near, _ := log.Rat(nil)
	return near
}

// With few bits the limits are close enough to the number to tell whether errors are counted right.
func TestSeriesEnclose(t *testing.T) {
	r := seeded()
	for range 60 {
		part := ratio(false, word(uint64(r.Intn(1000))), word(uint64(4000+r.Intn(7))))
		third := ratio(false, word(uint64(r.Intn(1000))), word(uint64(3000+r.Intn(7))))
		exp := new(big.Rat)
		bigExp(bigRat(part)).Rat(exp)
		log := bigLog(bigRat(Int(1).Add(third).over(Int(1).Sub(third))))
		for scale := range 150 {
			lo, hi := powerSeries(part.top.left(scale).over(part.under()), scale)
			limits := Band{binary(false, lo, scale), binary(false, hi, scale)}
			if !limits.Has(toFrac(exp)) {
				t.Fatalf("the series of e to %s with %d bits: %s", part.Text(), scale, limits.Text())
			}
			limits = areaTangent(third.top, third.under(), scale)
			limits = limits.Add(limits)
			if !limits.Has(toFrac(log)) {
				t.Fatalf("the series of areaTangent of %s with %d bits: %s", third.Text(), scale, limits.Text())
			}
		}
	}
}

func TestEnclosures(t *testing.T) {
	r := seeded()
	for range 30 {
		x := ratio(r.Intn(2) == 0, word(uint64(1+r.Intn(640))), word(uint64(10+r.Intn(7))))
		if r.Intn(4) == 0 {
			x = Int(64 * int64(r.Intn(2)*2-1))
		}
		exp := new(big.Rat)
		bigExp(bigRat(x)).Rat(exp)
		for _, bits := range []int{0, 1, 7, 64, 300, 2000} {
			power := x.enclosePower(bits)
			if !power.Has(toFrac(exp)) || power.Width().Cmp(twos(1, -bits)) > 0 {
				t.Fatalf("e to %s with %d bits: %s", x.Text(), bits, power.Text())
			}
			log := toFrac(exp).encloseLog(bits)
			if !log.Has(x) || log.Width().Cmp(twos(1, -bits)) > 0 {
				t.Fatalf("the logarithm of e to %s with %d bits: %s", x.Text(), bits, log.Text())
			}
		}
	}
}
