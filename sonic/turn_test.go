package sonic

import (
	"math"
	"math/big"
	"math/rand"
	"testing"

	"fluxmast/api"
	"fluxmast/num"
)

// P3.1 and P3.4: turns.

const most = 1 << 20

var badTurns = []Turn{
	{}, {A: most + 1}, {B: most + 1}, {C: most + 1}, {D: most + 1}, {A: -most - 1}, {B: -most - 1}, {C: -most - 1}, {D: -most - 1},
	{1, 1, 1, math.MinInt}, {math.MaxInt, 1, 1, 1}, {1, math.MinInt, 0, 0}, {0, 0, math.MaxInt, 0}, {1 << 32, 1 << 32, 1 << 32, 1 << 32},
}

func TestMatrix(t *testing.T) {
	for _, c := range []struct {
		turn Turn
		want string
	}{
		{Turn{A: 1}, "1 0 0, 0 1 0, 0 0 1"},
		{Turn{A: -5}, "1 0 0, 0 1 0, 0 0 1"},
		{Turn{B: 1}, "1 0 0, 0 -1 0, 0 0 -1"},
		{Turn{C: 7}, "-1 0 0, 0 1 0, 0 0 -1"},
		{Turn{D: -2}, "-1 0 0, 0 -1 0, 0 0 1"},
		{Turn{A: 1, D: 1}, "0 -1 0, 1 0 0, 0 0 1"},
		{Turn{A: 1, B: 1}, "1 0 0, 0 0 -1, 0 1 0"},
		{Turn{A: 1, C: 1}, "0 0 1, 0 1 0, -1 0 0"},
		{Turn{A: 2, D: 1}, "3/5 -4/5 0, 4/5 3/5 0, 0 0 1"},
		{Turn{1, 1, 1, 1}, "0 0 1, 1 0 0, 0 1 0"},
		{Turn{most, most, most, most}, "0 0 1, 1 0 0, 0 1 0"},
		{Turn{-most, most, 0, 0}, "1 0 0, 0 0 1, 0 -1 0"},
		{Turn{1, 2, 3, 4}, "-2/3 2/15 11/15, 2/3 -1/3 2/3, 1/3 14/15 2/15"},
	} {
		got, e := Matrix(c.turn)
		isCode(t, "Matrix", e, api.OK)
		isText(t, "Matrix", matText(got), c.want)
	}
}

func TestTurnErrors(t *testing.T) {
	good, v, m := Turn{1, 2, 3, 4}, vec(sample), mat("1 2 3", "4 5 6", "7 8 9")
	for _, turn := range badTurns {
		matrix, e := Matrix(turn)
		isCode(t, "Matrix", e, api.ErrArg)
		isText(t, "Matrix", matText(matrix), noMat)
		turned, e := Turned(turn, v)
		isCode(t, "Turned", e, api.ErrArg)
		isText(t, "Turned", text(turned), noVec)
		tensor, e := Tensor(turn, m)
		isCode(t, "Tensor", e, api.ErrArg)
		isText(t, "Tensor", matText(tensor), noMat)
		back, e := Undo(turn)
		isTurn(t, "Undo", back, e, Turn{}, api.ErrArg)
		both, e := After(turn, good)
		isTurn(t, "After", both, e, Turn{}, api.ErrArg)
		both, e = After(good, turn)
		isTurn(t, "After", both, e, Turn{}, api.ErrArg)
		both, e = After(turn, turn)
		isTurn(t, "After", both, e, Turn{}, api.ErrArg)
	}
}

func isTurn(t testing.TB, what string, got Turn, code api.Errno, want Turn, wantCode api.Errno) {
	t.Helper()
	isCode(t, what, code, wantCode)
	if got != want {
		t.Errorf("%s: %v, want %v", what, got, want)
	}
}

func TestTurned(t *testing.T) {
	for _, c := range []struct {
		turn    Turn
		v, want string
	}{
		{Turn{A: 1, D: 1}, "1 0 0", "0 1 0"},
		{Turn{1, 1, 1, 1}, "1 2 3", "3 1 2"},
		{Turn{1, -1, -1, -1}, "1 2 3", "2 3 1"},
		{Turn{A: 2, D: 1}, "5 0 1/7", "3 4 1/7"},
		{Turn{A: 9}, sample, sample},
		{Turn{B: -most}, "1 2 3", "1 -2 -3"},
	} {
		got, e := Turned(c.turn, vec(c.v))
		isCode(t, "Turned", e, api.OK)
		isText(t, "Turned", text(got), c.want)
	}
}

// quaternion is a quaternion of integers, as 1, i, j and k.
type quaternion [4]*big.Int

func hyper(turn Turn) quaternion {
	return quaternion{big.NewInt(int64(turn.A)), big.NewInt(int64(turn.B)), big.NewInt(int64(turn.C)), big.NewInt(int64(turn.D))}
}

// hyperProduct multiplies by the table of the units: i j = k, j k = i, k i = j, and the squares are -1.
func hyperProduct(x, y quaternion) quaternion {
	units := [4][4]int{{0, 1, 2, 3}, {1, 0, 3, 2}, {2, 3, 0, 1}, {3, 2, 1, 0}}
	signs := [4][4]int64{{1, 1, 1, 1}, {1, -1, 1, -1}, {1, -1, -1, 1}, {1, 1, -1, -1}}
	z := quaternion{new(big.Int), new(big.Int), new(big.Int), new(big.Int)}
	for i := range x {
		for k := range y {
			term := new(big.Int).Mul(x[i], y[k])
			z[units[i][k]].Add(z[units[i][k]], term.Mul(term, big.NewInt(signs[i][k])))
		}
	}
	return z
}

// hyperTurned is the vector that a turn makes of a unit vector: q v, times q with its last parts negated, over the square of q's length.
func hyperTurned(turn Turn, axis int) [3]*big.Rat {
	unit := quaternion{new(big.Int), new(big.Int), new(big.Int), new(big.Int)}
	unit[axis+1].SetInt64(1)
	q, conj := hyper(turn), hyper(Turn{turn.A, -turn.B, -turn.C, -turn.D})
	v, n := hyperProduct(hyperProduct(q, unit), conj), hyperProduct(q, conj)[0]
	var l [3]*big.Rat
	for i := range l {
		l[i] = new(big.Rat).SetFrac(v[i+1], n)
	}
	return l
}

func TestMatrixModel(t *testing.T) {
	r := seeded()
	for range 300 {
		turn := randomTurn(r)
		m, e := Matrix(turn)
		isCode(t, "Matrix", e, api.OK)
		for axis := range 3 {
			for i, want := range hyperTurned(turn, axis) {
				isRat(t, "Matrix", m[i][axis], want)
			}
		}
		v := randomVec(r)
		turned, e := Turned(turn, v)
		isCode(t, "Turned", e, api.OK)
		for i, row := range m {
			isRat(t, "Turned", turned[i], product(row, v))
		}
	}
}

func TestTurnsKeep(t *testing.T) {
	r := seeded()
	for range 200 {
		turn, v, w := randomTurn(r), randomVec(r), randomVec(r)
		m, _ := Matrix(turn)
		isText(t, "determinant", volume(m).RatString(), "1")
		tv, _ := Turned(turn, v)
		tw, _ := Turned(turn, w)
		isText(t, "product of turned vectors", product(tv, tw).RatString(), product(v, w).RatString())
		isText(t, "length of a turned vector", product(tv, tv).RatString(), product(v, v).RatString())

		undo, e := Undo(turn)
		isTurn(t, "Undo", undo, e, Turn{turn.A, -turn.B, -turn.C, -turn.D}, api.OK)
		back, _ := Turned(undo, tv)
		isText(t, "Undo", text(back), text(v))
	}
}

func TestAfter(t *testing.T) {
	quarter, third := Turn{A: 1, D: 1}, Turn{1, 1, 1, 1}
	for _, c := range []struct {
		first, second, want Turn
		code                api.Errno
	}{
		{quarter, quarter, Turn{D: 1}, api.OK},
		{quarter, third, Turn{B: 1, D: 1}, api.OK},
		{third, quarter, Turn{C: 1, D: 1}, api.OK},
		{Turn{B: 1}, Turn{B: 1}, Turn{A: -1}, api.OK},
		{Turn{B: 6}, Turn{C: -9}, Turn{D: 1}, api.OK},
		{Turn{C: 6}, Turn{B: -9}, Turn{D: -1}, api.OK},
		{Turn{A: 6, B: 4}, Turn{A: 1}, Turn{A: 3, B: 2}, api.OK},
		{Turn{A: -6, B: 4}, Turn{A: 5}, Turn{A: -3, B: 2}, api.OK},
		{Turn{most, most, most, most}, Turn{-most, most, most, most}, Turn{A: -1}, api.OK},
		{Turn{A: most, B: 1}, Turn{A: most, B: 3}, Turn{}, api.ErrFull},
		// 1024 times 1024 is still small enough, 1025 times 1024 is not.
		{Turn{A: 1024, B: 1}, Turn{A: 1024}, Turn{A: 1024, B: 1}, api.OK},
		{Turn{A: 1024, B: 1}, Turn{A: 1024, C: 1}, Turn{1 << 20, 1024, 1024, -1}, api.OK},
		{Turn{A: 1024, B: 1}, Turn{A: -1024, C: 1}, Turn{-1 << 20, -1024, 1024, -1}, api.OK},
		{Turn{A: 1024, B: 1}, Turn{A: 1025, C: 1}, Turn{}, api.ErrFull},
		{Turn{C: 1024, A: 1}, Turn{A: -1025, B: 1}, Turn{}, api.ErrFull},
		{Turn{B: 1025, A: 1}, Turn{A: 1024, C: 1}, Turn{}, api.ErrFull},
		{Turn{D: 1025, A: 1}, Turn{A: 1024, C: 1}, Turn{}, api.ErrFull},
	} {
		got, e := After(c.first, c.second)
		isTurn(t, "After", got, e, c.want, c.code)
	}
}

func TestAfterModel(t *testing.T) {
	r := seeded()
	codes := map[api.Errno]int{}
	for range 1000 {
		first, second := randomTurn(r), randomTurn(r)
		q := hyperProduct(hyper(second), hyper(first))
		divisor := new(big.Int)
		for _, x := range q {
			divisor.GCD(nil, nil, divisor, new(big.Int).Abs(x))
		}
		want, code := [4]int{}, api.OK
		for i, x := range q {
			x.Quo(x, divisor)
			if x.CmpAbs(big.NewInt(most)) > 0 {
				code = api.ErrFull
			}
			want[i] = int(x.Int64())
		}
		if code != api.OK {
			want = [4]int{}
		}
		got, e := After(first, second)
		isTurn(t, "After", got, e, Turn{want[0], want[1], want[2], want[3]}, code)
		codes[e]++
		if e == api.OK {
			isBehind(t, r, first, second, got)
		}
	}
	if codes[api.OK] < 100 || codes[api.ErrFull] < 100 {
		t.Error("too few cases:", codes)
	}
}

// isBehind tests that a turn is the second one behind the first one.
func isBehind(t testing.TB, r *rand.Rand, first, second, both Turn) {
	t.Helper()
	v := randomVec(r)
	w, _ := Turned(first, v)
	w, _ = Turned(second, w)
	at, e := Turned(both, v)
	isCode(t, "Turned", e, api.OK)
	isText(t, "After", text(at), text(w))
}

func TestTensor(t *testing.T) {
	for _, c := range []struct {
		turn Turn
		m    Mat
		want string
	}{
		{Turn{A: 1, D: 1}, mat("1 2 3", "4 5 6", "7 8 9"), "5 -4 -6, -2 1 3, -8 7 9"},
		{Turn{A: -3}, mat("1 2 3", "4 5 6", "7 8 9"), "1 2 3, 4 5 6, 7 8 9"},
		{Turn{1, 1, 1, 1}, mat("1 2 3", "4 5 6", "7 8 9"), "9 7 8, 3 1 2, 6 4 5"},
		{Turn{A: 2, D: 1}, mat("25 0 0", "0 0 0", "0 0 1/3"), "9 12 0, 12 16 0, 0 0 1/3"},
		{Turn{1, 2, 3, 4}, Mat{}, noMat},
	} {
		got, e := Tensor(c.turn, c.m)
		isCode(t, "Tensor", e, api.OK)
		isText(t, "Tensor", matText(got), c.want)
	}
}

func TestTensorModel(t *testing.T) {
	r := seeded()
	for range 100 {
		turn, c, v := randomTurn(r), randomMat(r), randomVec(r)
		got, e := Tensor(turn, c)
		isCode(t, "Tensor", e, api.OK)
		m, _ := Matrix(turn)
		for i := range 3 {
			for k := range 3 {
				sum := new(big.Rat)
				for a := range 3 {
					for b := range 3 {
						sum = add(sum, mul(mul(rat(m[i][a]), rat(c[a][b])), rat(m[k][b])))
					}
				}
				isRat(t, "Tensor", got[i][k], sum)
			}
		}
		trace := func(m Mat) string { return m[0][0].Add(m[1][1]).Add(m[2][2]).Text() }
		isText(t, "sum of the diagonal", trace(got), trace(c))

		for i := range 3 {
			for k := range i {
				c[i][k] = c[k][i]
			}
		}
		got, _ = Tensor(turn, c)
		isText(t, "Tensor of a symmetric matrix", matText(got), matText(Mat{{got[0][0], got[1][0], got[2][0]}, {got[0][1], got[1][1], got[2][1]}, {got[0][2], got[1][2], got[2][2]}}))

		w, _ := Turned(turn, v)
		got, _ = Tensor(turn, outer(v))
		isText(t, "Tensor of products", matText(got), matText(outer(w)))
	}
}

// outer is the products of a vector's components.
func outer(v Vec) Mat {
	return Mat{times(v, v[0]), times(v, v[1]), times(v, v[2])}
}

// P3.1 and P3.5: the turn into the mean wind.

func TestYaw(t *testing.T) {
	for _, c := range []struct {
		v    string
		k    int
		want Turn
	}{
		{"1 1 5", 2, Turn{A: 4, D: -1}},
		{"-1 -1 5", 2, Turn{A: 1, D: 4}},
		{"7 0 0", 3, Turn{A: 8}},
		{"0 3 0", 0, Turn{A: 1, D: -1}},
		{"0 3 0", 20, Turn{A: most, D: -most}},
		{"0 -3 0", 1, Turn{A: 2, D: 2}},
		{"-1 0 0", 0, Turn{D: 1}},
		{"-1 0 0", 20, Turn{D: most}},
		{"3 4 0", 1, Turn{A: 2, D: -1}},
		{"3 4 0", 20, Turn{A: most, D: -most / 2}},
		{"3 -4 0", 1, Turn{A: 2, D: 1}},
		{"-3 -4 0", 2, Turn{A: 2, D: 4}},
		{"-3 4 0", 2, Turn{A: -2, D: 4}},
		// The tangents of the half angles are a little off 1/2, 0 and -1.
		{"3000 4001 0", 1, Turn{A: 2, D: -1}},
		{"3000 3999 0", 1, Turn{A: 2, D: 0}},
		{"1000000000000000000000000000000 -1 0", 1, Turn{A: 2, D: 1}},
		{"1000000000000000000000000000000 -1 0", 20, Turn{A: most, D: 1}},
		{"1000000000000000000000000000000 1 0", 20, Turn{A: most}},
		{"1/1000000000000000000000000000000 -1 0", 20, Turn{A: most, D: most}},
		{"1/1000000000000000000000000000000 1 0", 20, Turn{A: most, D: 1 - most}},
		{"-1/1000000000000000000000000000000 -1 0", 20, Turn{A: most - 1, D: most}},
		{"-1/1000000000000000000000000000000 1 0", 20, Turn{A: -most, D: most}},
		// A number of bits below 0 is 0, one above 20 is 20.
		{"1 1 5", -1, Turn{A: 1}},
		{"1 1 5", math.MinInt, Turn{A: 1}},
		{"1 1 5", 20, Turn{A: most, D: -434334}},
		{"1 1 5", 21, Turn{A: most, D: -434334}},
		{"1 1 5", math.MaxInt, Turn{A: most, D: -434334}},
	} {
		got, e := Yaw(vec(c.v), c.k)
		isTurn(t, "Yaw of "+c.v, got, e, c.want, api.OK)
	}
	for _, v := range []string{"0 0 0", "0 0 1", "0 0 -1/2"} {
		got, e := Yaw(vec(v), 3)
		isTurn(t, "Yaw of "+v, got, e, Turn{}, api.ErrZero)
	}
}

// slowYaw tries all numbers, as the document describes it.
func slowYaw(v Vec, k int) Turn {
	unit := 1 << k
	greatest := func(v Vec) int {
		for n := unit; ; n-- {
			if turned, e := Turned(Turn{A: unit, D: -n}, v); e == api.OK && turned[1].Sign() >= 0 {
				return n
			}
		}
	}
	if v[0].Sign() > 0 || v[0].Sign() == 0 && v[1].Sign() > 0 {
		return Turn{A: unit, D: -greatest(v)}
	}
	return Turn{A: greatest(times(v, num.Int(-1))), D: unit}
}

func TestYawModel(t *testing.T) {
	r := seeded()
	for range 300 {
		v, k := randomVec(r), r.Intn(6)
		if v[0].Zero() && v[1].Zero() {
			continue
		}
		got, e := Yaw(v, k)
		isTurn(t, "Yaw of "+text(v), got, e, slowYaw(v, k), api.OK)
	}
}

func TestYawTurns(t *testing.T) {
	r := seeded()
	for range 400 {
		v, k := randomVec(r), r.Intn(21)
		if v[0].Zero() && v[1].Zero() {
			continue
		}
		turn, e := Yaw(v, k)
		isCode(t, "Yaw", e, api.OK)
		turned, e := Turned(turn, v)
		isCode(t, "Turned", e, api.OK)
		if turned[0].Sign() <= 0 || turned[1].Sign() < 0 || !turned[2].Same(v[2]) {
			t.Errorf("Yaw of %s with %d bits: %v leaves %s", text(v), k, turn, text(turned))
		}
		// n is -D for a wind to the right of the y axis, or along it, and otherwise A.
		next := turn
		if v[0].Sign() > 0 || v[0].Zero() && v[1].Sign() > 0 {
			next.D--
		} else {
			next.A++
		}
		if next.A > 1<<k || next.D < -1<<k {
			continue
		}
		if turned, e = Turned(next, v); e != api.OK || turned[1].Sign() >= 0 {
			t.Errorf("Yaw of %s with %d bits: %v, but %v leaves %s", text(v), k, turn, next, text(turned))
		}
	}
}

func TestExtremeTurns(t *testing.T) {
	r := seeded()
	for range 2000 {
		turn, other := Turn{extreme(r), extreme(r), extreme(r), extreme(r)}, Turn{extreme(r) % 7, r.Intn(3), r.Intn(3), 1}
		want := api.OK
		for _, n := range []int{turn.A, turn.B, turn.C, turn.D} {
			if n > most || n < -most {
				want = api.ErrArg
			}
		}
		if turn == (Turn{}) {
			want = api.ErrArg
		}
		_, e := Matrix(turn)
		isCode(t, "Matrix", e, want)
		if _, e = After(turn, other); e != want && e != api.ErrFull {
			t.Errorf("After: error %d, want %d", e, want)
		}
	}
}
