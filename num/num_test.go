package num

import (
	"math"
	"math/big"
	"math/rand"
	"testing"
)

// edges are the integers around which the functions might overflow or round wrongly.
func edges() []int {
	l := []int{0, 1, 2, 3, 5, 7, 10, 1<<31 - 1, 1 << 31, 1 << 32, 3037000499, 3037000500, 1 << 60, 1 << 61, 1 << 62, 1<<62 + 1, math.MaxInt - 1, math.MaxInt}
	for _, x := range l {
		l = append(l, -x)
	}
	return append(l, math.MinInt, math.MinInt+1)
}

// pick returns a random integer of random size.
func pick(r *rand.Rand) int {
	x := int(r.Uint64()) >> r.Intn(64)
	return x
}

func bigInt(x int) *big.Int { return big.NewInt(int64(x)) }

// floorQuo returns a / b rounded toward minus infinity, for b above 0.
func floorQuo(a, b *big.Int) *big.Int {
	q, _ := new(big.Int).DivMod(a, b, new(big.Int)) // Euclidean division: the same for b above 0
	return q
}

func TestP1_1Clamp(t *testing.T) {
	for _, x := range []struct{ x, lo, hi, want int }{
		{5, 0, 3, 3}, {5, 7, 3, 7}, {2, 0, 3, 2}, {-1, 0, 3, 0}, {0, 0, 3, 0}, {3, 0, 3, 3}, {8, 7, 3, 3}, {7, 7, 3, 3},
		{math.MinInt, 0, 3, 0}, {math.MaxInt, 0, 3, 3}, {4, math.MinInt, math.MaxInt, 4},
	} {
		if got := Clamp(x.x, x.lo, x.hi); got != x.want {
			t.Errorf("Clamp(%d, %d, %d) is %d, not %d", x.x, x.lo, x.hi, got, x.want)
		}
	}
}

func TestP1_1Division(t *testing.T) {
	for _, x := range []struct{ a, b, floor, round int }{
		{-7, 2, -4, -3}, {7, 2, 3, 4}, {6, 2, 3, 3}, {-6, 2, -3, -3}, {8, 3, 2, 3}, {7, 3, 2, 2}, {-8, 3, -3, -3}, {-7, 3, -3, -2},
		{0, 5, 0, 0}, {7, 0, 0, 0}, {7, -2, 0, 0}, {-7, -2, 0, 0}, {7, math.MinInt, 0, 0},
		{math.MinInt, 1, math.MinInt, math.MinInt}, {math.MaxInt, 1, math.MaxInt, math.MaxInt}, {math.MaxInt, math.MaxInt, 1, 1}, {math.MinInt, math.MaxInt, -2, -1},
	} {
		if got := FloorDiv(x.a, x.b); got != x.floor {
			t.Errorf("FloorDiv(%d, %d) is %d, not %d", x.a, x.b, got, x.floor)
		}
		if got := RoundDiv(x.a, x.b); got != x.round {
			t.Errorf("RoundDiv(%d, %d) is %d, not %d", x.a, x.b, got, x.round)
		}
	}
}

func checkDivision(t *testing.T, a, b int) {
	if b <= 0 {
		if f, r := FloorDiv(a, b), RoundDiv(a, b); f != 0 || r != 0 {
			t.Fatalf("FloorDiv, RoundDiv of %d, %d are %d, %d", a, b, f, r)
		}
		return
	}
	x, y := bigInt(a), bigInt(b)
	if want := floorQuo(x, y); want.Cmp(bigInt(FloorDiv(a, b))) != 0 {
		t.Fatalf("FloorDiv(%d, %d) is %d, not %d", a, b, FloorDiv(a, b), want)
	}
	two := bigInt(2)
	twice := new(big.Int).Add(new(big.Int).Mul(two, x), y)
	if want := floorQuo(twice, new(big.Int).Mul(two, y)); want.Cmp(bigInt(RoundDiv(a, b))) != 0 {
		t.Fatalf("RoundDiv(%d, %d) is %d, not %d", a, b, RoundDiv(a, b), want)
	}
	// P1.3: the product is at most a, and it does not overflow except where the floor is below every int.
	if new(big.Int).Mul(bigInt(FloorDiv(a, b)), y).Cmp(x) > 0 {
		t.Fatalf("FloorDiv(%d, %d) * %d is above %d", a, b, b, a)
	}
}

func checkSum(t *testing.T, a, b int) {
	want := new(big.Int).Add(bigInt(a), bigInt(b))
	got, ok := Add(a, b)
	if ok != want.IsInt64() || ok && want.Cmp(bigInt(got)) != 0 || !ok && got != 0 {
		t.Fatalf("Add(%d, %d) is %d, %v", a, b, got, ok)
	}
}

func checkMulDiv(t *testing.T, a, b, c int) {
	got, ok := MulDiv(a, b, c)
	if c <= 0 {
		if got != 0 || ok {
			t.Fatalf("MulDiv(%d, %d, %d) is %d, %v", a, b, c, got, ok)
		}
		return
	}
	want := floorQuo(new(big.Int).Mul(bigInt(a), bigInt(b)), bigInt(c))
	if ok != want.IsInt64() || ok && want.Cmp(bigInt(got)) != 0 || !ok && got != 0 {
		t.Fatalf("MulDiv(%d, %d, %d) is %d, %v, not %d", a, b, c, got, ok, want)
	}
}

func checkCmpMul(t *testing.T, a, b, c, d int) {
	want := new(big.Int).Mul(bigInt(a), bigInt(b)).Cmp(new(big.Int).Mul(bigInt(c), bigInt(d)))
	if got := CmpMul(a, b, c, d); got != want {
		t.Fatalf("CmpMul(%d, %d, %d, %d) is %d, not %d", a, b, c, d, got, want)
	}
	if got := CmpMul(c, d, a, b); got != -want {
		t.Fatalf("CmpMul(%d, %d, %d, %d) is %d, not %d", c, d, a, b, got, -want)
	}
}

func TestP1_EdgesAgainstBig(t *testing.T) {
	l := edges()
	for _, a := range l {
		for _, b := range l {
			checkDivision(t, a, b)
			checkSum(t, a, b)
			for _, c := range l {
				checkMulDiv(t, a, b, c)
				checkCmpMul(t, a, b, c, l[len(l)-1])
				checkCmpMul(t, a, b, c, 3)
			}
		}
	}
}

func TestP1_RandomAgainstBig(t *testing.T) {
	r := rand.New(rand.NewSource(1))
	for range 100000 {
		a, b, c, d := pick(r), pick(r), pick(r), pick(r)
		checkDivision(t, a, b)
		checkSum(t, a, b)
		checkMulDiv(t, a, b, c)
		checkCmpMul(t, a, b, c, d)
		checkCmpMul(t, a, b, b, a)
	}
}

func TestP1_1Sqrt(t *testing.T) {
	for _, x := range []struct{ n, want int }{
		{24, 4}, {25, 5}, {26, 5}, {0, 0}, {1, 1}, {2, 1}, {3, 1}, {4, 2}, {99, 9}, {-1, 0}, {-25, 0}, {math.MinInt, 0},
		{math.MaxInt, 3037000499}, {3037000499 * 3037000499, 3037000499}, {3037000499*3037000499 - 1, 3037000498},
	} {
		if got := Sqrt(x.n); got != x.want {
			t.Errorf("Sqrt(%d) is %d, not %d", x.n, got, x.want)
		}
	}
	r := rand.New(rand.NewSource(2))
	for range 20000 {
		n := pick(r)
		want := 0
		if n > 0 {
			want = int(new(big.Int).Sqrt(bigInt(n)).Int64())
		}
		if got := Sqrt(n); got != want {
			t.Fatalf("Sqrt(%d) is %d, not %d", n, got, want)
		}
	}
}

func TestP1_2Examples(t *testing.T) {
	if n, ok := Add(math.MaxInt, 1); n != 0 || ok {
		t.Errorf("Add(2^63 - 1, 1) is %d, %v", n, ok)
	}
	if n, ok := Add(math.MaxInt, math.MinInt); n != -1 || !ok {
		t.Errorf("Add(2^63 - 1, -2^63) is %d, %v", n, ok)
	}
	if n, ok := Add(math.MinInt, -1); n != 0 || ok {
		t.Errorf("Add(-2^63, -1) is %d, %v", n, ok)
	}
	for _, x := range []struct {
		a, b, c, want int
		ok            bool
	}{
		{-7, 3, 2, -11, true}, {7, 3, 2, 10, true}, {1 << 62, 4, 8, 1 << 61, true}, {1 << 62, 4, 1, 0, false}, {7, 3, 0, 0, false}, {7, 3, -2, 0, false},
		{math.MinInt, 1, 1, math.MinInt, true}, {math.MinInt, -1, 1, 0, false}, {math.MinInt, math.MinInt, math.MaxInt, 0, false}, {-1, 1, math.MaxInt, -1, true},
	} {
		if got, ok := MulDiv(x.a, x.b, x.c); got != x.want || ok != x.ok {
			t.Errorf("MulDiv(%d, %d, %d) is %d, %v, not %d, %v", x.a, x.b, x.c, got, ok, x.want, x.ok)
		}
	}
	for _, x := range []struct{ a, b, c, d, want int }{
		{2, 3, 1, 7, -1}, {2, 3, 1, 6, 0}, {2, 3, 1, 5, 1}, {-2, 3, 2, -3, 0}, {-2, 3, 1, 0, -1}, {0, -5, 7, 0, 0}, {-5, 5, -5, 4, -1},
		{1 << 40, 1 << 40, 1 << 41, 1 << 38, 1}, {math.MinInt, math.MinInt, math.MaxInt, math.MaxInt, 1},
	} {
		if got := CmpMul(x.a, x.b, x.c, x.d); got != x.want {
			t.Errorf("CmpMul(%d, %d, %d, %d) is %d, not %d", x.a, x.b, x.c, x.d, got, x.want)
		}
	}
}

func TestP1_3SqrtOfSquares(t *testing.T) {
	check := func(n int) {
		if got := Sqrt(n * n); got != n {
			t.Fatalf("Sqrt(%d * %d) is %d", n, n, got)
		}
		if n > 0 && Sqrt(n*n-1) != n-1 {
			t.Fatalf("Sqrt(%d * %d - 1) is %d", n, n, Sqrt(n*n-1))
		}
	}
	for n := range 3000 {
		check(n)
		check(3037000499 - n)
	}
	r := rand.New(rand.NewSource(3))
	for range 20000 {
		check(r.Intn(3037000500))
	}
}
