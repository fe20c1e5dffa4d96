package impl

import "errors"

// SizeMax is the greatest size of a number of a vector.
const SizeMax = 1000

// Vec is a vector.
type Vec struct {
	X int
	Y int
}

// Mat is a matrix: its rows are A, B and C, D.
type Mat struct {
	A int
	B int
	C int
	D int
}

// noneError tells that a value is not of the kind that it is taken for.
type noneError struct {
	kind string
}

func (e noneError) Error() string {
	return "this is no " + e.kind
}

// isNone reports whether an error, or one that it wraps, tells of a value that is none.
func isNone(err error) bool {
	var none noneError
	return errors.As(err, &none)
}

// checked is a value that tells by an error that it is none of its kind.
type checked interface {
	check() error
}

// checkAll returns the error of the first value that is none.
func checkAll(values ...checked) error {
	for _, value := range values {
		if err := value.check(); err != nil {
			return err
		}
	}
	return nil
}

// made returns what was made of valid values, and true, or the zero value and false if it is none.
func made[T checked](result T) (T, bool) {
	if isNone(result.check()) {
		var zero T
		return zero, false
	}
	return result, true
}

// inSize reports whether a number may stand in a vector or a matrix.
// It compares with both limits because the least int has no opposite.
func inSize(n int) bool {
	return -SizeMax <= n && n <= SizeMax
}

// commonDivisor returns the greatest common divisor of two numbers; it is not negative, and 0 only for 0 and 0.
func commonDivisor(a int, b int) int {
	for b != 0 {
		a, b = b, a%b
	}
	return max(a, -a)
}

func (a Vec) check() error {
	if !inSize(a.X) || !inSize(a.Y) {
		return noneError{"vector"}
	}
	return nil
}

func (a Vec) plus(b Vec) Vec {
	return Vec{a.X + b.X, a.Y + b.Y}
}

func (a Vec) minus(b Vec) Vec {
	return Vec{a.X - b.X, a.Y - b.Y}
}

func (a Vec) times(n int) Vec {
	return Vec{a.X * n, a.Y * n}
}

func (a Vec) det(b Vec) int {
	return a.X*b.Y - a.Y*b.X
}

func (a Vec) product(b Vec) int {
	return a.X*b.X + a.Y*b.Y
}

func (a Vec) turn() Vec {
	return Vec{-a.Y, a.X}
}

// isPrimitive does not hold for 0, as the common divisor of 0 and 0 is 0.
func (a Vec) isPrimitive() bool {
	return commonDivisor(a.X, a.Y) == 1
}

// primitive returns the primitive vector of which one that is not 0 is a multiple, and by which number.
func (a Vec) primitive() (Vec, int) {
	n := commonDivisor(a.X, a.Y)
	return Vec{a.X / n, a.Y / n}, n
}

// inSecondHalf reports whether the direction is met in the second half of the way round, which begins opposite to the start.
func (a Vec) inSecondHalf() bool {
	return a.Y < 0 || a.Y == 0 && a.X < 0
}

// ahead tells the order of two directions, neither of them of 0.
// Only within one half of the way round does the determinant alone tell it.
func (a Vec) ahead(b Vec) bool {
	if a.inSecondHalf() != b.inSecondHalf() {
		return b.inSecondHalf()
	}
	return a.det(b) > 0
}

// rounds returns how often directions lead round, each of them less than half a turn behind the one ahead of it.
// It counts where the way round begins again.
func rounds(directions []Vec) int {
	n := 0
	for i, a := range directions {
		if directions[(i+1)%len(directions)].ahead(a) {
			n++
		}
	}
	return n
}

func (m Mat) check() error {
	if !inSize(m.A) || !inSize(m.B) || !inSize(m.C) || !inSize(m.D) {
		return noneError{"matrix"}
	}
	if d := m.det(); d != 1 && d != -1 {
		return noneError{"matrix"}
	}
	return nil
}

func (m Mat) det() int {
	return m.A*m.D - m.B*m.C
}

func (m Mat) move(a Vec) Vec {
	return Vec{m.A*a.X + m.B*a.Y, m.C*a.X + m.D*a.Y}
}

// times moves the columns of the second matrix, which are where it moves 1, 0 and 0, 1.
func (m Mat) times(n Mat) Mat {
	first := m.move(Vec{n.A, n.C})
	second := m.move(Vec{n.B, n.D})
	return Mat{first.X, second.X, first.Y, second.Y}
}

// turned multiplies by the determinant instead of dividing by it: for 1 and -1 both are the same.
func (m Mat) turned() Mat {
	d := m.det()
	return Mat{d * m.D, -d * m.B, -d * m.C, d * m.A}
}

// VecIn reports whether a vector is as told.
func VecIn(a Vec) bool {
	return !isNone(a.check())
}

// VecAdd returns the sum of two vectors, and true.
func VecAdd(a Vec, b Vec) (Vec, bool) {
	if isNone(checkAll(a, b)) {
		return Vec{}, false
	}
	return made(a.plus(b))
}

// VecTimes returns a vector times a number from -SizeMax to SizeMax, and true.
func VecTimes(a Vec, n int) (Vec, bool) {
	if isNone(a.check()) || !inSize(n) {
		return Vec{}, false
	}
	return made(a.times(n))
}

// VecDet returns the determinant of two vectors, and true.
func VecDet(a Vec, b Vec) (int, bool) {
	if isNone(checkAll(a, b)) {
		return 0, false
	}
	return a.det(b), true
}

// VecProduct returns the product of two vectors, and true.
func VecProduct(a Vec, b Vec) (int, bool) {
	if isNone(checkAll(a, b)) {
		return 0, false
	}
	return a.product(b), true
}

// VecPrimitive returns the primitive vector of which a vector that is not 0 is a multiple by a number greater than 0, and this number, and true.
func VecPrimitive(a Vec) (Vec, int, bool) {
	if isNone(a.check()) || a == (Vec{}) {
		return Vec{}, 0, false
	}
	b, n := a.primitive()
	return b, n, true
}

// VecTurn returns the vector with the opposite Y as X, and X as Y, and true.
func VecTurn(a Vec) (Vec, bool) {
	if isNone(a.check()) {
		return Vec{}, false
	}
	return a.turn(), true
}

// VecAhead reports whether, going once round from the direction of X greater than 0 and Y as 0 towards Y greater than 0, the direction of the first vector is met strictly ahead of that of the second one.
func VecAhead(a Vec, b Vec) bool {
	if isNone(checkAll(a, b)) || a == (Vec{}) || b == (Vec{}) {
		return false
	}
	return a.ahead(b)
}

// MatIn reports whether a matrix is as told.
func MatIn(m Mat) bool {
	return !isNone(m.check())
}

// MatMove returns the vector to which a matrix moves a vector, and true.
func MatMove(m Mat, a Vec) (Vec, bool) {
	if isNone(checkAll(m, a)) {
		return Vec{}, false
	}
	return made(m.move(a))
}

// MatTimes returns the matrix that moves as the second one and then as the first one, and true.
func MatTimes(m Mat, n Mat) (Mat, bool) {
	if isNone(checkAll(m, n)) {
		return Mat{}, false
	}
	return made(m.times(n))
}

// MatTurned returns the matrix that moves back, and true.
func MatTurned(m Mat) (Mat, bool) {
	if isNone(m.check()) {
		return Mat{}, false
	}
	return m.turned(), true
}
