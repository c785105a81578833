package sonic

import (
	"sort"

	"fluxmast/api"
	"fluxmast/num"
)

// Turn is a rotation by a quaternion of integers.
type Turn struct{ A, B, C, D int }

// maxYawBits is the greatest number of bits of a tangent.
const maxYawBits = 20

// check returns the error of a turn.
func (t Turn) check() api.Errno {
	if t == (Turn{}) || !t.small() {
		return api.ErrArg
	}
	return api.OK
}

func (t Turn) small() bool {
	return small(t.A) && small(t.B) && small(t.C) && small(t.D)
}

// Matrix returns the matrix of a turn.
func Matrix(t Turn) (Mat, api.Errno) {
	if e := t.check(); e != api.OK {
		return Mat{}, e
	}
	a, b, c, d := t.A, t.B, t.C, t.D
	rows := [3][3]int{
		{a*a + b*b - c*c - d*d, 2 * (b*c - a*d), 2 * (b*d + a*c)},
		{2 * (b*c + a*d), a*a - b*b + c*c - d*d, 2 * (c*d - a*b)},
		{2 * (b*d - a*c), 2 * (c*d + a*b), a*a - b*b - c*c + d*d},
	}
	n := whole(a*a + b*b + c*c + d*d)
	var m Mat
	for i, row := range rows {
		for j, x := range row {
			m[i][j] = over(whole(x), n)
		}
	}
	return m, api.OK
}

// Turned returns a turned vector.
func Turned(t Turn, v Vec) (Vec, api.Errno) {
	m, e := Matrix(t)
	if e != api.OK {
		return Vec{}, e
	}
	return Parts(m, v), api.OK
}

// Undo returns the turn back.
func Undo(t Turn) (Turn, api.Errno) {
	if e := t.check(); e != api.OK {
		return Turn{}, e
	}
	return Turn{A: t.A, B: -t.B, C: -t.C, D: -t.D}, api.OK
}

// After returns one turn behind another one.
func After(first, second Turn) (Turn, api.Errno) {
	if e := first.check(); e != api.OK {
		return Turn{}, e
	}
	if e := second.check(); e != api.OK {
		return Turn{}, e
	}
	both := second.times(first).lowest()
	if !both.small() {
		return Turn{}, api.ErrFull
	}
	return both, api.OK
}

// times returns the product of two quaternions.
func (t Turn) times(u Turn) Turn {
	return Turn{
		A: t.A*u.A - t.B*u.B - t.C*u.C - t.D*u.D,
		B: t.A*u.B + t.B*u.A + t.C*u.D - t.D*u.C,
		C: t.A*u.C - t.B*u.D + t.C*u.A + t.D*u.B,
		D: t.A*u.D + t.B*u.C - t.C*u.B + t.D*u.A,
	}
}

// lowest returns the quaternion, which is not 0, divided by what its numbers have in common.
func (t Turn) lowest() Turn {
	divisor := common(common(t.A, t.B), common(t.C, t.D))
	return Turn{A: t.A / divisor, B: t.B / divisor, C: t.C / divisor, D: t.D / divisor}
}

// common returns the greatest common divisor; it is 0 just if both are 0.
func common(m, n int) int {
	for n != 0 {
		m, n = n, m%n
	}
	return max(m, -m)
}

// Tensor returns turned covariances.
func Tensor(t Turn, c Mat) (Mat, api.Errno) {
	m, e := Matrix(t)
	if e != api.OK {
		return Mat{}, e
	}
	return m.turn(m.turn(c)), api.OK
}

// turn returns the product of m, and of c with rows and columns exchanged.
func (m Mat) turn(c Mat) Mat {
	var rows Mat
	for i, row := range c {
		rows[i] = Parts(m, row)
	}
	return rows.exchanged()
}

// Yaw returns the turn around the vertical axis that brings a wind into the first axis, as nearly as k bits allow.
func Yaw(v Vec, k int) (Turn, api.Errno) {
	x, y := v[0], v[1]
	if x.Zero() && y.Zero() {
		return Turn{}, api.ErrZero
	}
	unit := 1 << min(max(k, 0), maxYawBits)
	if x.Sign() > 0 || x.Zero() && y.Sign() > 0 {
		return Turn{A: unit, D: -tangent(x, y, unit)}, api.OK
	}
	return Turn{A: tangent(x.Neg(), y.Neg(), unit), D: unit}, api.OK
}

// tangent returns the greatest n from -unit to unit for which the turn (unit, 0, 0, -n) leaves y not below 0. The angle
// of (x, y) is above -90 and at most 90 degrees.
func tangent(x, y num.Frac, unit int) int {
	below := func(n int) bool {
		// The sign of the turned y is that of unit^2 + n^2 times it.
		return y.Mul(whole(unit*unit-n*n)).Cmp(x.Mul(whole(2*unit*n))) < 0
	}
	// From -unit to unit it turns from 90 to -90 degrees: y is not below 0 at first, and once it is, it stays so.
	return sort.Search(2*unit, func(i int) bool { return below(i + 1 - unit) }) - unit
}
