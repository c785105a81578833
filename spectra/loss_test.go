package spectra_test

import (
	"math"
	"math/big"
	"math/rand"
	"slices"
	"testing"

	"fluxmast/api"
	"fluxmast/num"
	"fluxmast/spectra"
)

// P6.1 and P6.7: losses.

const noBand = "[0,0]"

func isBand(t testing.TB, what string, want string, wantCode api.Errno) func(got num.Band, e api.Errno) {
	return func(got num.Band, e api.Errno) {
		t.Helper()
		isCode(t, what, e, wantCode)
		isText(t, what, got.Text(), want)
	}
}

func gains(t testing.TB, f num.Frac, taus []num.Band) num.Band {
	t.Helper()
	return right[num.Band](t, "Gains")(spectra.Gains(f, taus))
}

func loss(t testing.TB, model, freqs []num.Frac, taus []num.Band) num.Band {
	t.Helper()
	return right[num.Band](t, "Loss")(spectra.Loss(model, freqs, taus))
}

// slowGain is 1/(1 + (f tau)^2).
func slowGain(f, tau *big.Rat) *big.Rat {
	power := ratMul(ratMul(f, tau), ratMul(f, tau))
	return ratQuo(ratOf(1), ratAdd(ratOf(1), power))
}

// slowGains is the product of all gains; all taus are not below 0, so that ends are of ends.
func slowGains(f num.Frac, taus []num.Band) interval {
	product := only(ratOf(1))
	for _, tau := range taus {
		product.lo = ratMul(product.lo, slowGain(rat(f), rat(tau.Hi())))
		product.hi = ratMul(product.hi, slowGain(rat(f), rat(tau.Lo())))
	}
	return product
}

func slowLoss(model, freqs []num.Frac, taus []num.Band) interval {
	sum, all := only(ratOf(0)), ratOf(0)
	for i, part := range model {
		sum = sum.add(slowGains(freqs[i], taus).times(rat(part)))
		all = ratAdd(all, rat(part))
	}
	return sum.times(ratQuo(ratOf(1), all))
}

// randomPart is a number that is not below 0; at times it is 0, or has many digits.
func randomPart(r *rand.Rand) num.Frac {
	part := func(n, d int64) num.Frac {
		x, _ := num.New(n, d)
		return x
	}
	switch r.Intn(6) {
	case 0:
		return num.Frac{}
	case 1:
		return part(r.Int63(), 1+r.Int63n(1<<40)).Mul(part(r.Int63(), 1+r.Int63()))
	case 2:
		return num.Int(r.Int63n(4))
	}
	return part(r.Int63n(100), 1+r.Int63n(30))
}

func randomBand(r *rand.Rand) num.Band {
	return num.Only(randomPart(r)).Hull(num.Only(randomPart(r)))
}

func randomBands(r *rand.Rand, count int) []num.Band {
	l := make([]num.Band, count)
	for i := range l {
		l[i] = randomBand(r)
	}
	return l
}

func randomParts(r *rand.Rand, count int) []num.Frac {
	l := make([]num.Frac, count)
	for i := range l {
		l[i] = randomPart(r)
	}
	return l
}

// randomModel is parts of a cospectrum, not all of which are 0.
func randomModel(r *rand.Rand, count int) []num.Frac {
	l := randomParts(r, count)
	l[r.Intn(count)] = randomPart(r).Add(num.Int(1))
	return l
}

// within is a number of a band.
func within(r *rand.Rand, b num.Band) num.Frac {
	part, _ := num.New(r.Int63n(5), 4)
	return b.Lo().Add(b.Width().Mul(part))
}

// narrower is bands that lie in others.
func narrower(r *rand.Rand, l []num.Band) []num.Band {
	var all []num.Band
	for _, b := range l {
		all = append(all, num.Only(within(r, b)).Hull(num.Only(within(r, b))))
	}
	return all
}

func TestGain(t *testing.T) {
	for _, c := range []struct{ f, tau, want string }{
		{"1", "0 1", "[1/2,1]"},
		{"2", "3 3", "[1/37,1/37]"},
		{"0", "5 7", "[1,1]"},
		{"5/3", "0 0", "[1,1]"},
		{"1/2", "1 4", "[1/5,4/5]"},
		{"3/4", "4/3 8/3", "[1/5,1/2]"},
		{"99999999999999999999", "0 1", "[1/9999999999999999999800000000000000000002,1]"},
	} {
		isBand(t, "Gain", c.want, api.OK)(spectra.Gain(frac(c.f), band(c.tau)))
	}
	isBand(t, "Gain of zero values", "[1,1]", api.OK)(spectra.Gain(num.Frac{}, num.Band{}))
	for _, c := range []struct{ f, tau string }{
		{"-1", "0 1"}, {"-1/99999999999999999999", "0 1"}, {"1", "-1 1"}, {"1", "-1/99999999999999999999 0"}, {"0", "-2 -1"}, {"-1", "-2 -1"},
	} {
		isBand(t, "Gain", noBand, api.ErrArg)(spectra.Gain(frac(c.f), band(c.tau)))
	}
}

func TestGains(t *testing.T) {
	for _, c := range []struct{ f, taus, want string }{
		{"1", "", "[1,1]"},
		{"1", "0 1", "[1/2,1]"},
		{"1", "1 1 2 2", "[1/10,1/10]"},
		{"1", "0 1 1 2", "[1/10,1/2]"},
		{"0", "0 1 1 2 3 9", "[1,1]"},
		{"1", "1 1 1 1 1 1 1 1 1 1 1 1", "[1/64,1/64]"},
	} {
		isBand(t, "Gains", c.want, api.OK)(spectra.Gains(frac(c.f), bands(c.taus)))
	}
	isBand(t, "Gains of no list", "[1,1]", api.OK)(spectra.Gains(frac("7"), []num.Band{}))
	below := band("-1 1")
	for _, c := range []struct {
		what string
		f    string
		taus []num.Band
		want api.Errno
	}{
		{"7 filters", "1", make([]num.Band, 7), api.ErrSize},
		{"7 filters and f below 0", "-1", make([]num.Band, 7), api.ErrSize},
		{"7 filters, one below 0", "1", append(make([]num.Band, 6), below), api.ErrSize},
		{"f below 0", "-1", bands("0 1"), api.ErrArg},
		{"f below 0 and no filter", "-1/3", nil, api.ErrArg},
		{"a first filter below 0", "1", []num.Band{below, {}}, api.ErrArg},
		{"a last filter below 0", "0", append(make([]num.Band, 5), below), api.ErrArg},
		{"a filter below 0 altogether", "1", bands("0 1 -2 -1"), api.ErrArg},
	} {
		isBand(t, "Gains with "+c.what, noBand, c.want)(spectra.Gains(frac(c.f), c.taus))
	}
}

func TestGainsLaws(t *testing.T) {
	r := seeded()
	one := num.Int(1)
	for range 200 {
		f, taus := randomPart(r), randomBands(r, r.Intn(7))
		got := gains(t, f, taus)
		isText(t, "Gains", got.Text(), slowGains(f, taus).text())
		isTrue(t, "Gains is above 0, and at most 1", got.Lo().Sign() > 0 && got.Hi().Cmp(one) <= 0)
		isText(t, "Gains of the frequency 0", gains(t, num.Frac{}, taus).Text(), "[1,1]")

		greater := gains(t, f.Add(randomPart(r)), taus)
		isTrue(t, "a greater frequency lets through no more", greater.Lo().Cmp(got.Lo()) <= 0 && greater.Hi().Cmp(got.Hi()) <= 0)
		slower := slices.Clone(taus)
		product := num.Only(one)
		for i, tau := range taus {
			slower[i] = tau.Add(num.Only(randomPart(r)))
			gain, e := spectra.Gain(f, tau)
			isCode(t, "Gain", e, api.OK)
			isTrue(t, "Gain is above 0, and at most 1", gain.Lo().Sign() > 0 && gain.Hi().Cmp(one) <= 0)
			product = product.Mul(gain)
		}
		isText(t, "Gains is the product of Gain", got.Text(), product.Text())
		less := gains(t, f, slower)
		isTrue(t, "greater time constants let through no more", less.Lo().Cmp(got.Lo()) <= 0 && less.Hi().Cmp(got.Hi()) <= 0)
		isTrue(t, "narrower bands have narrower Gains", gains(t, f, narrower(r, taus)).In(got))
	}
}

func TestLoss(t *testing.T) {
	for _, c := range []struct{ model, freqs, taus, want string }{
		{"3 1", "0 1", "1 1", "[7/8,7/8]"},
		{"3 1", "0 1", "", "[1,1]"},
		{"1", "1", "0 1", "[1/2,1]"},
		{"0 5", "0 1", "0 1", "[1/2,1]"},
		{"5 0", "0 1", "0 1", "[1,1]"},
		{"1/2 1/2", "1 2", "1 1", "[7/20,7/20]"},
		{"1 1", "1 1", "1 1 2 2", "[1/10,1/10]"},
		{"1 2 3 4 5 6 7 8", "0 0 0 0 0 0 0 1", "1 1 0 0 0 0 0 0 0 0 0 0", "[8/9,8/9]"},
	} {
		isBand(t, "Loss", c.want, api.OK)(spectra.Loss(fracs(c.model), fracs(c.freqs), bands(c.taus)))
	}
}

func TestLossErrors(t *testing.T) {
	eight, nine := "1 1 1 1 1 1 1 1", "1 1 1 1 1 1 1 1 1"
	six, seven := "0 0 0 0 0 0 0 0 0 0 0 0", "0 0 0 0 0 0 0 0 0 0 0 0 0 0"
	for _, c := range []struct {
		what               string
		model, freqs, taus string
		want               api.Errno
	}{
		{"no model", "", "", "", api.ErrSize},
		{"no model, but frequencies", "", "1", "", api.ErrSize},
		{"9 elements", nine, nine, "", api.ErrSize},
		{"8 elements and 9 frequencies", eight, nine, "", api.ErrSize},
		{"9 elements and 8 frequencies", nine, eight, "", api.ErrSize},
		{"fewer frequencies", "1 2", "1", "", api.ErrSize},
		{"more frequencies", "1", "1 2", "", api.ErrSize},
		{"no frequency", "1", "", "", api.ErrSize},
		{"7 filters", "1", "1", seven, api.ErrSize},
		{"7 filters and all below 0", "-1", "-1", seven[:len(seven)-3] + "-1 1", api.ErrSize},
		{"fewer frequencies, all below 0", "-1 -1", "-1", "-1 -1", api.ErrSize},
		{"7 filters and a model of zeros", "0", "0", seven, api.ErrSize},
		{"a first element below 0", "-1 2", "1 1", "", api.ErrArg},
		{"a last element below 0", "2 -1/99999999999999999999", "1 1", "", api.ErrArg},
		{"an element below 0 in a sum of 0", "1 -1", "1 1", "", api.ErrArg},
		{"a first frequency below 0", "1 1", "-1 1", "", api.ErrArg},
		{"a last frequency below 0", "1 1", "1 -1/99999999999999999999", "", api.ErrArg},
		{"a frequency below 0 of an element of 0", "1 0", "1 -1", "", api.ErrArg},
		{"a first filter below 0", "1", "1", "-1 1 0 0", api.ErrArg},
		{"a last filter below 0", "1", "1", "0 0 -1/99999999999999999999 0", api.ErrArg},
		{"a filter below 0 at the frequency 0", "1", "0", "-1 1", api.ErrArg},
		{"a frequency below 0 and a model of zeros", "0 0", "1 -1", "", api.ErrArg},
		{"a filter below 0 and a model of zeros", "0 0", "1 1", "-1 1", api.ErrArg},
		{"a model of zeros", "0 0", "1 1", "1 1", api.ErrZero},
		{"a model of one zero", "0", "1", "", api.ErrZero},
	} {
		isBand(t, "Loss with "+c.what, noBand, c.want)(spectra.Loss(fracs(c.model), fracs(c.freqs), bands(c.taus)))
	}
	isBand(t, "Loss at the limits", "[1,1]", api.OK)(spectra.Loss(fracs(eight), fracs(eight), bands(six)))
}

func TestLossLaws(t *testing.T) {
	r := seeded()
	for range 150 {
		count := 1 + r.Intn(8)
		model, freqs, taus := randomModel(r, count), randomParts(r, count), randomBands(r, r.Intn(7))
		got := loss(t, model, freqs, taus)
		isText(t, "Loss", got.Text(), slowLoss(model, freqs, taus).text())
		all := gains(t, freqs[0], taus)
		for _, f := range freqs[1:] {
			all = all.Hull(gains(t, f, taus))
		}
		isTrue(t, "Loss lies between the least and the greatest Gains", got.In(all))
		isTrue(t, "narrower bands have a narrower Loss", loss(t, model, freqs, narrower(r, taus)).In(got))
	}
}

func TestCorrect(t *testing.T) {
	for _, c := range []struct{ flux, loss, want string }{
		{"7", "7/8 7/8", "[8,8]"},
		{"-6", "1/2 1", "[-12,-6]"},
		{"6", "1/2 1", "[6,12]"},
		{"0", "1/2 1", "[0,0]"},
		{"5", "1 1", "[5,5]"},
		{"1", "1/99999999999999999999 1", "[1,99999999999999999999]"},
	} {
		isBand(t, "Correct", c.want, api.OK)(spectra.Correct(frac(c.flux), band(c.loss)))
	}
	for _, loss := range []string{"0 1", "0 0", "-1 1", "-1 -1/2", "-1/99999999999999999999 1", "1/2 100000000000000000000/99999999999999999999", "1 2", "2 3", "-1 2"} {
		isBand(t, "Correct with the loss "+loss, noBand, api.ErrArg)(spectra.Correct(frac("7"), band(loss)))
		isBand(t, "Correct of 0 with the loss "+loss, noBand, api.ErrArg)(spectra.Correct(num.Frac{}, band(loss)))
	}
	isBand(t, "Correct with a zero value", noBand, api.ErrArg)(spectra.Correct(frac("1"), num.Band{}))
}

func TestCorrectHasTheTrueFlux(t *testing.T) {
	r := seeded()
	for range 150 {
		count := 1 + r.Intn(8)
		model, freqs, taus := randomModel(r, count), randomParts(r, count), randomBands(r, r.Intn(7))
		told := loss(t, model, freqs, taus)
		var known []num.Band // the time constants
		for _, tau := range taus {
			known = append(known, num.Only(within(r, tau)))
		}
		left := loss(t, model, freqs, known)
		isTrue(t, "the Loss of known time constants is one number", left.Width().Zero())
		flux := randomPart(r).Sub(randomPart(r))
		measured := flux.Mul(left.Lo())
		got, e := spectra.Correct(measured, told)
		isCode(t, "Correct", e, api.OK)
		isTrue(t, "Correct has the true flux", got.Has(flux))
		closer, e := spectra.Correct(measured, loss(t, model, freqs, narrower(r, taus)))
		isCode(t, "Correct", e, api.OK)
		isTrue(t, "a narrower Loss has a narrower flux", closer.In(got))
	}
}

func TestResponse(t *testing.T) {
	for _, c := range []struct {
		f, tau string
		want   complex128
	}{
		{"1", "1", 0.5 - 0.5i},
		{"3", "0", 1},
		{"0", "3", 1},
		{"0", "0", 1},
		{"2", "1", 0.2 - 0.4i},
		{"1/2", "1/2", complex(16.0/17, -4.0/17)},
		{"6", "1/2", 0.1 - 0.3i},
	} {
		got, e := spectra.Response(frac(c.f), frac(c.tau))
		isCode(t, "Response", e, api.OK)
		isComplex(t, got, c.want)
	}
	for _, c := range []struct{ f, tau string }{{"-1", "1"}, {"1", "-1"}, {"-1", "-1"}, {"-1/99999999999999999999", "0"}, {"0", "-1/99999999999999999999"}} {
		got, e := spectra.Response(frac(c.f), frac(c.tau))
		isCode(t, "Response", e, api.ErrArg)
		isComplex(t, got, 0)
	}
}

func isComplex(t testing.TB, got, want complex128) {
	t.Helper()
	same := func(a, b float64) bool { return math.Float64bits(a) == math.Float64bits(b) }
	if !same(real(got), real(want)) || !same(imag(got), imag(want)) {
		t.Error("Response:", got, want)
	}
}

// power10 is a power of 10.
func power10(n int) num.Frac {
	x := num.Int(1)
	for range n {
		x = x.Mul(num.Int(10))
	}
	return x
}

func TestResponseModel(t *testing.T) {
	r := seeded()
	great := power10(200)
	small, _ := num.Int(1).Div(great)
	type pair struct{ f, tau num.Frac }
	pairs := []pair{{great, great}, {great, num.Int(3)}, {small, num.Int(3)}, {small, small}, {great, small}}
	for range 200 {
		pairs = append(pairs, pair{randomPart(r), randomPart(r)})
	}
	for _, p := range pairs {
		x := ratMul(rat(p.f), rat(p.tau))
		re := slowGain(rat(p.f), rat(p.tau))
		fRe, _ := re.Float64()
		fIm, _ := ratMul(re, ratMul(x, ratOf(-1))).Float64()
		if fIm == 0 {
			fIm = 0 // what is rounded to zero becomes +0
		}
		got, e := spectra.Response(p.f, p.tau)
		isCode(t, "Response", e, api.OK)
		isComplex(t, got, complex(fRe, fIm))
	}
}

func TestLossesKeepTheirArguments(t *testing.T) {
	sameFrac := func(a, b num.Frac) bool { return a.Same(b) }
	sameBand := func(a, b num.Band) bool { return a.Text() == b.Text() }
	model, sameModel := behind(t, fracs("3 1"), frac("99"), sameFrac)
	freqs, sameFreqs := behind(t, fracs("0 1"), frac("99"), sameFrac)
	taus, sameTaus := behind(t, bands("1 1"), band("99 99"), sameBand)
	for range 2 { // twice, as nothing is kept
		isText(t, "Gains", gains(t, freqs[1], taus).Text(), "[1/2,1/2]")
		isText(t, "Loss", loss(t, model, freqs, taus).Text(), "[7/8,7/8]")
	}
	sameModel()
	sameFreqs()
	sameTaus()
}
