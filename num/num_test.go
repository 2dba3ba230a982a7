package num_test

import (
	"math"
	"math/big"
	"testing"

	"wicketgate/api"
	"wicketgate/num"
	"wicketgate/plain"
)

const (
	least    = math.MinInt64
	greatest = math.MaxInt64
)

// wantDo fails unless Do tells that number and that error.
func wantDo(t *testing.T, op, a, b, want int, wrong api.Errno) {
	t.Helper()
	got, err := num.Do(op, a, b)
	if got != want || plain.Told(err) != wrong {
		t.Errorf("Do(%d, %d, %d): got %d and %v, want %d and %v", op, a, b, got, err, want, wrong)
	}
}

// wantNeg fails unless Neg tells that number and that error.
func wantNeg(t *testing.T, a, want int, wrong api.Errno) {
	t.Helper()
	got, err := num.Neg(a)
	if got != want || plain.Told(err) != wrong {
		t.Errorf("Neg(%d): got %d and %v, want %d and %v", a, got, err, want, wrong)
	}
}

// exact is what is to be told of a number that has no bounds.
func exact(x *big.Int) (int, api.Errno) {
	if !x.IsInt64() {
		return 0, api.ErrOver
	}
	return int(x.Int64()), api.OK
}

// wantExact holds all that may be asked of two numbers against math/big.
func wantExact(t *testing.T, a, b int) {
	t.Helper()
	x, y := big.NewInt(int64(a)), big.NewInt(int64(b))
	for _, c := range []struct {
		op   int
		full *big.Int
	}{
		{api.Add, new(big.Int).Add(x, y)},
		{api.Sub, new(big.Int).Sub(x, y)},
		{api.Mul, new(big.Int).Mul(x, y)},
	} {
		want, wrong := exact(c.full)
		wantDo(t, c.op, a, b, want, wrong)
	}
}

// edges are the numbers around 0, around the powers of 2 and their opposites,
// around the root of the greatest one, and at both ends.
func edges() []int {
	seen := map[int]bool{}
	var all []int
	put := func(near int) {
		for by := -2; by <= 2; by++ {
			// What wraps round here is at the other end, and wanted, too.
			if n := near + by; !seen[n] {
				seen[n] = true
				all = append(all, n)
			}
		}
	}
	put(0)
	for bit := range 64 {
		put(1 << bit)
		put(-1 << bit)
	}
	put(3037000499)
	put(-3037000499)
	return all
}

// scattered gives numbers of all sizes, the same ones each time.
func scattered(many int) []int {
	all := make([]int, many)
	state := uint64(1)
	for i := range all {
		state = state*6364136223846793005 + 1442695040888963407
		mixed := (state ^ state>>29) * 0x9E3779B97F4A7C15
		all[i] = int(mixed) >> (state >> 58)
	}
	return all
}

// NU1: by examples.
func TestDo(t *testing.T) {
	for _, c := range []struct{ op, a, b, want int }{
		{api.Add, 2, 3, 5},
		{api.Add, 2, -3, -1},
		{api.Add, -2, -3, -5},
		{api.Add, 0, 0, 0},
		{api.Sub, 2, 3, -1},
		{api.Sub, 3, 2, 1},
		{api.Sub, 2, -3, 5},
		{api.Sub, -2, -3, 1},
		{api.Sub, 7, 7, 0},
		{api.Mul, 2, 3, 6},
		{api.Mul, 2, -3, -6},
		{api.Mul, -2, 3, -6},
		{api.Mul, -2, -3, 6},
		{api.Mul, 0, 5, 0},
		{api.Mul, 5, 0, 0},
		{api.Mul, -1, 5, -5},
		{api.Mul, 5, -1, -5},
	} {
		wantDo(t, c.op, c.a, c.b, c.want, api.OK)
	}
}

// NU1: the last numbers that are of 64 bits.
func TestDoUpToTheEnds(t *testing.T) {
	for _, c := range []struct{ op, a, b, want int }{
		{api.Add, greatest, 0, greatest},
		{api.Add, 0, least, least},
		{api.Add, greatest - 1, 1, greatest},
		{api.Add, least + 1, -1, least},
		{api.Add, greatest, least, -1},
		{api.Add, least, greatest, -1},
		{api.Sub, least, 0, least},
		{api.Sub, least + 1, 1, least},
		{api.Sub, greatest - 1, -1, greatest},
		{api.Sub, 0, greatest, least + 1},
		{api.Sub, -1, least, greatest},
		{api.Sub, -1, greatest, least},
		{api.Sub, least, least, 0},
		{api.Sub, greatest, greatest, 0},
		{api.Mul, greatest, 1, greatest},
		{api.Mul, greatest, -1, least + 1},
		{api.Mul, -1, greatest, least + 1},
		{api.Mul, least, 1, least},
		{api.Mul, 1, least, least},
		{api.Mul, least, 0, 0},
		{api.Mul, 0, least, 0},
		{api.Mul, -1 << 62, 2, least},
		{api.Mul, 2, -1 << 62, least},
		{api.Mul, 1 << 62, -2, least},
		{api.Mul, 1 << 31, -1 << 32, least},
		{api.Mul, 3037000499, 3037000499, 9223372030926249001},
	} {
		wantDo(t, c.op, c.a, c.b, c.want, api.OK)
	}
}

// NU1: the first numbers that are none of 64 bits, and the farthest ones.
func TestDoBeyondTheEnds(t *testing.T) {
	for _, c := range []struct{ op, a, b int }{
		{api.Add, greatest, 1},
		{api.Add, 1, greatest},
		{api.Add, least, -1},
		{api.Add, -1, least},
		{api.Add, greatest, greatest},
		{api.Add, least, least},
		{api.Sub, least, 1},
		{api.Sub, greatest, -1},
		{api.Sub, 0, least},
		{api.Sub, -2, greatest},
		{api.Sub, greatest, least},
		{api.Sub, least, greatest},
		{api.Mul, 1 << 62, 2},
		{api.Mul, 2, 1 << 62},
		{api.Mul, -1 << 62, -2},
		{api.Mul, least, -1},
		{api.Mul, -1, least},
		{api.Mul, least, 2},
		{api.Mul, greatest, 2},
		{api.Mul, greatest, -2},
		// These wrap round to numbers that look harmless.
		{api.Mul, 1 << 32, 1 << 32},
		{api.Mul, least, least},
		{api.Mul, greatest, greatest},
		{api.Mul, 3037000500, 3037000500},
	} {
		wantDo(t, c.op, c.a, c.b, 0, api.ErrOver)
	}
}

// NU1: each pair of edges, and each edge with numbers of all sizes.
func TestDoIsExact(t *testing.T) {
	ends := edges()
	for _, a := range ends {
		for _, b := range ends {
			wantExact(t, a, b)
		}
	}
	for _, a := range scattered(300) {
		for _, b := range ends {
			wantExact(t, a, b)
			wantExact(t, b, a)
		}
	}
}

// NU1: products, sums and differences that just are, or just are not, of 64 bits.
func TestDoIsExactNearTheEnds(t *testing.T) {
	for _, a := range append(edges(), scattered(3000)...) {
		for by := -2; by <= 2; by++ {
			for _, end := range []int{least, greatest} {
				wantExact(t, a, end-a+by)
				wantExact(t, end-a+by, a)
				wantExact(t, a, a-end+by)
				wantExact(t, a-end+by, a)
				if a != 0 {
					wantExact(t, a, end/a+by)
					wantExact(t, end/a+by, a)
				}
			}
		}
	}
}

// NU1: another op is told, also where the numbers would be too great.
func TestDoOfAnotherOp(t *testing.T) {
	ops := []int{least, least + api.Add, -api.Add, -api.Sub, -api.Mul, 1<<32 + api.Add, 1<<8 + api.Mul, greatest}
	for op := -100; op <= 300; op++ {
		if op != api.Add && op != api.Sub && op != api.Mul {
			ops = append(ops, op)
		}
	}
	for _, op := range ops {
		wantDo(t, op, 0, 0, 0, api.ErrSyntax)
		wantDo(t, op, 2, 3, 0, api.ErrSyntax)
		wantDo(t, op, greatest, greatest, 0, api.ErrSyntax)
		wantDo(t, op, least, -1, 0, api.ErrSyntax)
	}
}

// NU1: the opposite, and the one number that has none.
func TestNeg(t *testing.T) {
	wantNeg(t, 0, 0, api.OK)
	wantNeg(t, 5, -5, api.OK)
	wantNeg(t, -5, 5, api.OK)
	wantNeg(t, greatest, least+1, api.OK)
	wantNeg(t, least+1, greatest, api.OK)
	wantNeg(t, least, 0, api.ErrOver)
	for _, a := range append(edges(), scattered(3000)...) {
		want, wrong := exact(new(big.Int).Neg(big.NewInt(int64(a))))
		wantNeg(t, a, want, wrong)
	}
}
