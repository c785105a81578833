package sonic

import (
	"fluxmast/api"
	"fluxmast/num"
)

// Path is a sonic path: its length in micrometres, and how long sound takes there and back, in nanoseconds.
type Path struct{ Length, There, Back int }

// Shade says by which factor a path sees too little wind, from a square of the cosine between both on.
type Shade struct{ From, Factor num.Frac }

const (
	maxLength = 1000000
	maxFlight = 1 << 30
	// halfUnit is half of a micrometre per nanosecond, in metres per second.
	halfUnit = 500
	// squarePerKelvin is the square of the speed of sound for each kelvin.
	squarePerKelvin = 403
)

// Along returns the wind along a path, in metres per second.
func Along(p Path) (num.Frac, api.Errno) {
	return p.speed(p.Back - p.There)
}

// Sound returns the speed of sound along a path, in metres per second.
func Sound(p Path) (num.Frac, api.Errno) {
	return p.speed(p.Back + p.There)
}

// speed returns half of the path's length times a sum or difference of its times, divided by their product.
func (p Path) speed(times int) (num.Frac, api.Errno) {
	if !p.valid() {
		return num.Frac{}, api.ErrArg
	}
	return num.New(int64(halfUnit*p.Length*times), int64(p.There*p.Back))
}

func (p Path) valid() bool {
	return oneTo(maxLength, p.Length) && oneTo(maxFlight, p.There) && oneTo(maxFlight, p.Back)
}

func oneTo(most, n int) bool {
	return 1 <= n && n <= most
}

// Temperature returns the sonic temperature, in kelvin, by the speed of sound along a path and the square of the wind across it.
func Temperature(sound, across num.Frac) (num.Frac, api.Errno) {
	if sound.Sign() <= 0 || across.Sign() < 0 {
		return num.Frac{}, api.ErrArg
	}
	// Wind across a path makes the way of the sound longer.
	square := sound.Mul(sound).Add(across)
	return square.Div(whole(squarePerKelvin))
}

// Wind returns the wind whose parts along three paths are given.
func Wind(paths Mat, along Vec) (Vec, api.Errno) {
	minors := paths.minors()
	determinant := paths[0].dot(minors[0])
	if determinant.Zero() {
		return Vec{}, api.ErrSingular
	}
	wind := Parts(minors.exchanged(), along)
	for i, x := range wind {
		wind[i] = over(x, determinant)
	}
	return wind, api.OK
}

// Parts returns the parts of a wind along three paths.
func Parts(paths Mat, wind Vec) Vec {
	var parts Vec
	for i, row := range paths {
		parts[i] = row.dot(wind)
	}
	return parts
}

// Across returns the squares of a wind's speeds across three paths.
func Across(paths Mat, wind Vec) (Vec, api.Errno) {
	speed := wind.square()
	var across Vec
	for i, row := range paths {
		length := row.square()
		if length.Zero() {
			return Vec{}, api.ErrZero
		}
		product := row.dot(wind)
		across[i] = speed.Sub(over(product.Mul(product), length))
	}
	return across, api.OK
}

// Shadow returns the parts along three paths without their transducers' shadows.
func Shadow(t []Shade, paths Mat, along Vec) (Vec, api.Errno) {
	if e := checkShades(t); e != api.OK {
		return Vec{}, e
	}
	wind, e := Wind(paths, along)
	if e != api.OK {
		return Vec{}, e
	}
	speed := wind.square()
	if speed.Zero() {
		return along, api.OK
	}
	var parts Vec
	for i, part := range along {
		cosine := over(part.Mul(part), paths[i].square().Mul(speed))
		parts[i] = over(part, factor(t, cosine))
	}
	return parts, api.OK
}

// checkShades returns the error of a table of shades.
func checkShades(t []Shade) api.Errno {
	if len(t) < 1 || len(t) > api.MaxTable {
		return api.ErrSize
	}
	for i, s := range t {
		switch {
		case i == 0 && !s.From.Zero():
			return api.ErrArg
		case i > 0 && s.From.Cmp(t[i-1].From) <= 0:
			return api.ErrOrder
		case s.Factor.Sign() <= 0 || s.Factor.Cmp(whole(1)) > 0:
			return api.ErrArg
		}
	}
	return api.OK
}

// factor returns the factor of a table for a square of a cosine.
func factor(t []Shade, cosine num.Frac) num.Frac {
	last := t[0]
	for _, s := range t[1:] {
		if s.From.Cmp(cosine) <= 0 {
			last = s
		}
	}
	return last.Factor
}
