package eddy

import (
	"math"
	"math/big"
	"math/rand"
	"testing"

	"fluxmast/api"
	"fluxmast/num"
)

// P5.1 and P5.3: trends.

func TestTrend(t *testing.T) {
	for _, c := range []struct {
		x, want string
		code    api.Errno
	}{
		{"1 2 4", "5/6 3/2", api.OK},
		{"3 5", "3 2", api.OK},
		{"5 3", "5 -2", api.OK},
		{"0.5 0.5 0.5", "1/2 0", api.OK},
		{"-0 0", "0 0", api.OK},
		{"0 0 0 1", "-1/5 3/10", api.OK},
		{"1", "0 0", api.ErrFew},
	} {
		at, rise, e := Trend(series(c.x))
		isCode(t, "Trend of "+c.x, e, c.code)
		isText(t, "Trend of "+c.x, fracsText(at, rise), c.want)
	}
	at, rise, e := Trend([]float32{-math.MaxFloat32, math.MaxFloat32})
	isCode(t, "the steepest Trend", e, api.OK)
	isRat(t, "the steepest Trend", at, ratOfFloat(-math.MaxFloat32))
	isRat(t, "the steepest Trend", rise, mul(ratOf(2), ratOfFloat(math.MaxFloat32)))
}

func TestDetrended(t *testing.T) {
	for _, c := range []struct {
		x, y, want string
		code       api.Errno
	}{
		{"1 2 4", "1 2 4", "1/18", api.OK},
		{"1 2 4", "3 5 7", "0", api.OK},
		{"3 5 7", "1 2 4", "0", api.OK},
		{"1 2 4", "4 2 1", "1/18", api.OK},
		{"1 2 4", "-1 -2 -4", "-1/18", api.OK},
		{"1 2", "7 -9", "0", api.OK},
		{"0 1 0 0", "0 0 1 0", "-1/20", api.OK}, // rests -2/5, 7/10, -1/5, -1/10 and -1/10, -1/5, 7/10, -2/5
		{"1", "1", "0", api.ErrFew},
	} {
		got, e := Detrended(series(c.x), series(c.y))
		isCode(t, "Detrended of "+c.x+" and "+c.y, e, c.code)
		isText(t, "Detrended of "+c.x+" and "+c.y, got.Text(), c.want)
	}
}

func TestSeriesOfTrends(t *testing.T) {
	isErrorOfSeries(t, "Trend", func(x []float32) (bool, api.Errno) {
		at, rise, e := Trend(x)
		return at.Zero() && rise.Zero(), e
	})
	isErrorOfTwo(t, "Detrended", func(x, y []float32) (bool, api.Errno) {
		got, e := Detrended(x, y)
		return got.Zero(), e
	})
}

// left is what is left of a series without a line.
func left(x []float32, at, rise *big.Rat) []*big.Rat {
	l := rats(x)
	for i := range l {
		l[i] = sub(sub(l[i], at), mul(rise, ratOf(i)))
	}
	return l
}

func total(l []*big.Rat) *big.Rat {
	return mul(ratMean(l), ratOf(len(l)))
}

func TestTrendIsBest(t *testing.T) {
	r := seeded()
	for range 200 {
		x := randomSeries(r, 2+r.Intn(63))
		at, rise, e := Trend(x)
		isCode(t, "Trend", e, api.OK)
		rest := left(x, rat(at), rat(rise))
		var indices []*big.Rat
		for i := range x {
			indices = append(indices, ratOf(i))
		}
		isTrue(t, "what is left has the sum 0", isRatZero(total(rest)))
		isTrue(t, "its products with the indices have the sum 0", isRatZero(total(products(rest, indices))))
		least := total(products(rest, rest))
		for range 5 {
			other := left(x, add(rat(at), rat(randomFrac(r))), add(rat(rise), rat(randomFrac(r))))
			isTrue(t, "no line leaves a lesser sum", total(products(other, other)).Cmp(least) >= 0)
		}
	}
}

// onLine is a line, with the samples on it.
func onLine(r *rand.Rand, count int) (at, rise float32, x []float32) {
	at, rise = smallSample(r), smallSample(r)
	for i := range count {
		x = append(x, at+rise*float32(i))
	}
	return at, rise, x
}

func TestTrendOfLine(t *testing.T) {
	r := seeded()
	for range 200 {
		a, b, x := onLine(r, 2+r.Intn(63))
		at, rise, e := Trend(x)
		isCode(t, "Trend", e, api.OK)
		isRat(t, "Trend of a line", at, ratOfFloat(a))
		isRat(t, "Trend of a line", rise, ratOfFloat(b))
		got, e := Detrended(x, randomSeries(r, len(x)))
		isCode(t, "Detrended", e, api.OK)
		isText(t, "Detrended with a line", got.Text(), "0")
	}
}

func TestDetrendedModel(t *testing.T) {
	r := seeded()
	for range 100 {
		x, y := randomPair(r, 2, 64)
		xAt, xRise, _ := Trend(x)
		yAt, yRise, _ := Trend(y)
		got, e := Detrended(x, y)
		isCode(t, "Detrended", e, api.OK)
		isRat(t, "Detrended", got, ratMean(products(left(x, rat(xAt), rat(xRise)), left(y, rat(yAt), rat(yRise)))))
		turned, _ := Detrended(y, x)
		isText(t, "Detrended of both exchanged", turned.Text(), got.Text())
	}
}

func TestDetrendedWithLine(t *testing.T) {
	r := seeded()
	for range 100 {
		count := 2 + r.Intn(63)
		x, y := make([]float32, count), make([]float32, count)
		for i := range x {
			x[i], y[i] = smallSample(r), smallSample(r)
		}
		before, _ := Detrended(x, y)
		_, _, line := onLine(r, count)
		for i := range x {
			x[i] += line[i] // it stays exact
		}
		after, _ := Detrended(x, y)
		isText(t, "Detrended with a line added", after.Text(), before.Text())
	}
}

// The covariance of what Trend leaves is that of both series, less that of both lines.
func TestDetrendedByMoments(t *testing.T) {
	r := seeded()
	for range 100 {
		x, y := randomPair(r, 2, 64)
		n := int64(len(x))
		spread, _ := num.New(n*n-1, 12) // the variance of the indices
		_, xRise, _ := Trend(x)
		_, yRise, _ := Trend(y)
		covariance, _ := Covariance(sumsOf(t, x, y))
		got, _ := Detrended(x, y)
		isText(t, "Detrended", got.Text(), covariance.Sub(xRise.Mul(yRise).Mul(spread)).Text())
	}
}
