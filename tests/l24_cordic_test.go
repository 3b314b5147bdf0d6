package tests

import (
	"math"
	"math/big"
	"slices"
	"sync"
	"testing"

	"loop.example/g00481/impl"
)

// Promise 24: what is left of an angle that was turned is less than a step.

const (
	mostSteps    = 120
	mostKernBits = 480
	mostKernAt   = 200
)

var (
	noSteps      = []int{math.MinInt, math.MinInt + 1, -120, -2, -1, 121, 122, 200, 1 << 32, 1<<32 + 5, math.MaxInt - 1, math.MaxInt}
	noKernPlaces = []int{math.MinInt, math.MinInt + 1, -200, -2, -1, 0, 201, 202, 464, 1 << 32, 1<<32 + 5, math.MaxInt - 1, math.MaxInt}
	kernPlaces   = []int{1, 2, 3, 10, 24, 61, 118, 119, 199, 200}
	kernSteps    = []int{0, 1, 2, 3, 12, 26, 60, 119, 120}
)

func kernOf(x *big.Int, y *big.Int, z *big.Int) impl.Kern {
	return impl.Kern{X: wholeOf(x), Y: wholeOf(y), Z: wholeOf(z)}
}

func smallKern(x int, y int, z int) impl.Kern { return kernOf(bigInt(x), bigInt(y), bigInt(z)) }

func sameKern(a impl.Kern, b impl.Kern) bool {
	return sameWhole(a.X, b.X) && sameWhole(a.Y, b.Y) && sameWhole(a.Z, b.Z)
}

func briefKern(k impl.Kern) impl.Kern {
	return impl.Kern{X: shortened(k.X), Y: shortened(k.Y), Z: shortened(k.Z)}
}

func layKern(k impl.Kern) (impl.Kern, []laid) {
	x, first := layWhole(k.X)
	y, second := layWhole(k.Y)
	z, third := layWhole(k.Z)
	return impl.Kern{X: x, Y: y, Z: z}, []laid{first, second, third}
}

// By how much each step turns at p: reckoned once.
type stepAngles map[int][]*big.Int

func (known stepAngles) at(p int) []*big.Int {
	if known[p] == nil {
		for i := range mostSteps {
			known[p] = append(known[p], maxOf(anglePair(i, p).lo, new(big.Int)))
		}
	}
	return known[p]
}

// A turn of n steps; forward tells of Y and Z which way the next one goes.
func (known stepAngles) turned(k impl.Kern, p int, n int, forward func(y *big.Int, z *big.Int) bool) impl.Kern {
	x, y, z := bigOfWhole(k.X), bigOfWhole(k.Y), bigOfWhole(k.Z)
	for i := range n {
		d := big.NewInt(-1)
		if forward(y, z) {
			d = big.NewInt(1)
		}
		dx, dy := floorOf(x, near(i, 0)), floorOf(y, near(i, 0))
		angle := new(big.Int).Mul(known.at(p)[i], d)
		x, y = new(big.Int).Sub(x, dy.Mul(dy, d)), new(big.Int).Add(y, dx.Mul(dx, d))
		z = new(big.Int).Sub(z, angle)
	}
	return kernOf(x, y, z)
}

func (known stepAngles) check(t *testing.T, k impl.Kern, p int, n int) {
	t.Helper()
	want := known.turned(k, p, n, func(_ *big.Int, z *big.Int) bool { return z.Sign() >= 0 })
	if got, ok := impl.Rotate(k, p, n); !ok || !sameKern(got, want) {
		t.Fatalf("Rotate(%v, %d, %d) = %v, %v, want %v", k, p, n, got, ok, want)
	}
	want = known.turned(k, p, n, func(y *big.Int, _ *big.Int) bool { return y.Sign() < 0 })
	if got, ok := impl.Vector(k, p, n); !ok || !sameKern(got, want) {
		t.Fatalf("Vector(%v, %d, %d) = %v, %v, want %v", k, p, n, got, ok, want)
	}
}

func refusedKern(t *testing.T, name string, k impl.Kern, p int, n int) {
	t.Helper()
	if got, ok := impl.Rotate(k, p, n); ok || !sameKern(got, k) {
		t.Fatalf("%s: Rotate(%v, %d, %d) = %v, %v", name, briefKern(k), p, n, briefKern(got), ok)
	}
	if got, ok := impl.Vector(k, p, n); ok || !sameKern(got, k) {
		t.Fatalf("%s: Vector(%v, %d, %d) = %v, %v", name, briefKern(k), p, n, briefKern(got), ok)
	}
}

// Numbers of any size that is allowed, with both signs.
func kernNumbers() []*big.Int {
	m := &mixer{state: 24242424}
	out := []*big.Int{new(big.Int)}
	above := []*big.Int{big.NewInt(1), big.NewInt(2), big.NewInt(3), big.NewInt(7), big.NewInt(100), near(24, -1), near(24, 0), near(62, 1), near(200, -1), near(479, 0), near(480, -2), near(480, -1)}
	for _, limbs := range []int{1, 3, 5, 10, 19} {
		above = append(above, bigOf(m.list(limbs)))
	}
	for _, n := range above {
		out = append(out, n, negativeOf(n))
	}
	return out
}

func goodKerns() []impl.Kern {
	var out []impl.Kern
	m := &mixer{state: 42424242}
	numbers := kernNumbers()
	for _, n := range numbers {
		other, third := numbers[m.below(len(numbers))], numbers[m.below(len(numbers))]
		out = append(out, kernOf(n, other, third), kernOf(other, n, third), kernOf(other, third, n), kernOf(n, n, n))
	}
	return out
}

// One place of three holds what is none: no number, or one bit too long.
func badKerns() []impl.Kern {
	bads := badWholes()
	for _, n := range []*big.Int{near(480, 0), near(480, 1), near(481, 0), near(504, 0), near(mostBits, -1)} {
		bads = append(bads, wholeOf(n), wholeOf(negativeOf(n)))
	}
	var out []impl.Kern
	one, two := impl.WholeOf(5), impl.WholeOf(-7)
	for _, bad := range bads {
		out = append(out, impl.Kern{X: bad, Y: one, Z: two}, impl.Kern{X: one, Y: bad, Z: two}, impl.Kern{X: one, Y: two, Z: bad}, impl.Kern{X: bad, Y: bad, Z: bad})
	}
	return out
}

func TestKernOkTellsKerns(t *testing.T) {
	if impl.MaxSteps != mostSteps {
		t.Error("MaxSteps", impl.MaxSteps)
	}
	for _, k := range goodKerns() {
		if !impl.KernOk(k) {
			t.Errorf("KernOk(%v) is false", k)
		}
	}
	for _, k := range badKerns() {
		if impl.KernOk(k) {
			t.Errorf("KernOk(%v) is true", briefKern(k))
		}
	}
	if !impl.KernOk(impl.Kern{}) {
		t.Error("0 is refused")
	}
	most := near(mostKernBits, -1)
	if !impl.KernOk(kernOf(most, negativeOf(most), most)) {
		t.Error("480 bits are refused")
	}
}

func TestRotateNamedOnes(t *testing.T) {
	cases := []struct{ x, y, z, p, n, right, up, left int }{
		{100, -7, 300, 10, 0, 100, -7, 300},
		// The angles at 10 bits are 804 and 474.
		{100, -7, 300, 10, 1, 107, 93, -504}, {100, -7, 300, 10, 2, 153, 40, -30}, {100, -7, 0, 10, 1, 107, 93, -804}, {100, -7, -1, 10, 1, 93, -107, 803}, {100, -7, 804, 10, 1, 107, 93, 0}, {100, -7, 804, 10, 2, 61, 146, -474},
		// Floors below nought: of -7 by 2 it is -4, of -1 by 2 it is -1.
		{-1, 0, 804, 10, 1, -1, -1, 0}, {-1, 0, 804, 10, 2, 0, -2, -474}, {0, 0, 5, 10, 2, 0, 0, -325}, {-7, -7, 0, 10, 2, -7, -14, -330},
		// At 1 bit the angles are 1 and 0, and then below 0, which is 0.
		{8, 0, 1, 1, 1, 8, 8, 0}, {8, 0, 1, 1, 2, 4, 12, 0}, {8, 0, 1, 1, 3, 1, 13, 0}, {8, 0, -1, 1, 3, 13, -1, 0}, {0, 0, -5, 1, 120, 0, 0, -4},
	}
	for _, c := range cases {
		got, ok := impl.Rotate(smallKern(c.x, c.y, c.z), c.p, c.n)
		if !ok || !sameKern(got, smallKern(c.right, c.up, c.left)) {
			t.Errorf("%v: %s, %s, %s, %v", c, impl.WholeText(got.X), impl.WholeText(got.Y), impl.WholeText(got.Z), ok)
		}
	}
}

func TestVectorNamedOnes(t *testing.T) {
	cases := []struct{ x, y, z, p, n, right, up, left int }{
		{100, -7, 300, 10, 0, 100, -7, 300}, {100, -7, 300, 10, 1, 107, 93, -504}, {100, 7, 300, 10, 1, 107, -93, 1104}, {100, 0, 0, 10, 1, 100, -100, 804}, {100, -1, 0, 10, 1, 101, 99, -804},
		// -93 by 2 is -47; 107 by 2 is 53.
		{100, 7, 300, 10, 2, 154, -40, 630}, {0, 0, 0, 10, 1, 0, 0, 804}, {0, 0, 0, 10, 2, 0, 0, 1278}, {-1, -1, 0, 10, 1, 0, -2, -804}, {-1, -1, 0, 10, 2, 1, -2, -1278},
		{8, 4, 0, 1, 1, 12, -4, 1}, {8, 4, 0, 1, 2, 14, 2, 1}, {8, 4, 0, 1, 3, 14, -1, 1},
	}
	for _, c := range cases {
		got, ok := impl.Vector(smallKern(c.x, c.y, c.z), c.p, c.n)
		if !ok || !sameKern(got, smallKern(c.right, c.up, c.left)) {
			t.Errorf("%v: %s, %s, %s, %v", c, impl.WholeText(got.X), impl.WholeText(got.Y), impl.WholeText(got.Z), ok)
		}
	}
}

func TestTurnsOfEachKern(t *testing.T) {
	t.Parallel()
	known := stepAngles{}
	m := &mixer{state: 45454545}
	for _, k := range goodKerns() {
		for range 6 {
			known.check(t, k, kernPlaces[m.below(len(kernPlaces))], kernSteps[m.below(len(kernSteps))])
		}
	}
	for _, p := range kernPlaces {
		for _, n := range kernSteps {
			known.check(t, smallKern(-12345, 6789, -1), p, n)
			known.check(t, kernOf(near(p, 0), big.NewInt(-1), near(p, -1)), p, n)
		}
	}
}

// Small numbers about nought, where each floor and each sign counts.
func TestTurnsAboutNought(t *testing.T) {
	t.Parallel()
	known := stepAngles{}
	for x := -4; x <= 4; x++ {
		for y := -4; y <= 4; y++ {
			for z := -2; z <= 2; z++ {
				for _, n := range []int{1, 2, 3, 5} {
					known.check(t, smallKern(x, y, z), 3, n)
					known.check(t, smallKern(x, y, z), 1, n)
				}
			}
		}
	}
}

func TestTurnsAtEachPlace(t *testing.T) {
	t.Parallel()
	known := stepAngles{}
	for p := 1; p <= mostKernAt; p++ {
		n := impl.StepsFor(p)
		known.check(t, kernOf(near(p, 0), big.NewInt(-3), near(p, -5)), p, n)
		known.check(t, kernOf(near(p, 1), near(p, -1), negativeOf(near(p, 0))), p, n)
	}
}

// As much is left of an angle as the last step turns by, but for what was cut off of each step.
func TestLessThanAStepIsLeftOfTheAngle(t *testing.T) {
	t.Parallel()
	m := &mixer{state: 12121212}
	for _, p := range []int{4, 10, 24, 61, 100, 118, 150, 200} {
		for _, n := range []int{4, 10, 24, 60, 100, 120, impl.StepsFor(p)} {
			last, _ := impl.AngleOf(min(n-1, 200), p)
			most := new(big.Int).Add(maxOf(bigOfWhole(last.Hi), new(big.Int)), bigInt(2*n))
			for range 10 {
				// As far as a quarter of a turn, either way: all steps together turn further.
				z := new(big.Int).Rsh(new(big.Int).Mul(near(p, 0), bigInt(m.below(3217)-1608)), 10)
				got, ok := impl.Rotate(kernOf(near(p, 0), new(big.Int), z), p, n)
				if left := bigOfWhole(got.Z); !ok || left.CmpAbs(most) > 0 {
					t.Fatalf("of %v at %d %v is left behind %d steps, more than %v", z, p, left, n, most)
				}
			}
		}
	}
}

// By how many bits what is cut off may show behind n steps.
func offBy(n int) *big.Float { return exactly(8 * (n + 4)) }

// The point is turned by the angle, and lengthened by the gain.
func TestRotateTurnsByTheAngle(t *testing.T) {
	t.Parallel()
	m := &mixer{state: 34343434}
	for _, p := range []int{20, 61, 118} {
		n := impl.StepsFor(p)
		gain := rootOf(trueGainSquare(n))
		for range 12 {
			z := new(big.Int).Rsh(new(big.Int).Mul(near(p, 0), bigInt(m.below(3217)-1608)), 10)
			got, _ := impl.Rotate(kernOf(near(p, 0), new(big.Int), z), p, n)
			sine, cosine := trueWave(scaled(realOf(z), -p))
			for name, c := range map[string]struct {
				got  impl.Whole
				want *big.Float
			}{"X": {got.X, cosine}, "Y": {got.Y, sine}} {
				off := lessOf(realOf(bigOfWhole(c.got)), scaled(productOf(c.want, gain), p))
				if off.Abs(off).Cmp(offBy(n)) > 0 {
					t.Fatalf("%s of %v at %d is off by %s", name, z, p, off.Text('f', 3))
				}
			}
		}
	}
}

// The angle of the point is added, its length is X, and less than a step's is left of Y.
func TestVectorFindsTheAngle(t *testing.T) {
	t.Parallel()
	m := &mixer{state: 56565656}
	for _, p := range []int{20, 61, 118} {
		n := impl.StepsFor(p)
		gain := rootOf(trueGainSquare(n))
		for range 12 {
			x, y := 1<<15+m.below(1<<15), m.below(1<<16)-1<<15
			right, up := new(big.Int).Rsh(new(big.Int).Mul(near(p, 0), bigInt(x)), 16), new(big.Int).Rsh(new(big.Int).Mul(near(p, 0), bigInt(y)), 16)
			got, _ := impl.Vector(kernOf(right, up, new(big.Int)), p, n)
			length := scaled(rootOf(realOf(squareOf(right, up))), 0)
			angle := trueAtan(quotientOf(realOf(up), realOf(right)))
			for name, off := range map[string]*big.Float{
				"the length":        lessOf(realOf(bigOfWhole(got.X)), productOf(length, gain)),
				"the angle":         lessOf(realOf(bigOfWhole(got.Z)), scaled(angle, p)),
				"what is left of Y": realOf(bigOfWhole(got.Y)),
			} {
				if off.Abs(off).Cmp(offBy(n)) > 0 {
					t.Fatalf("(%d, %d) at %d: %s is off by %s", x, y, p, name, off.Text('f', 3))
				}
			}
		}
	}
}

// Behind no step all is as it was, in memory of its own.
func TestNoStepTurnsNothing(t *testing.T) {
	for _, k := range goodKerns() {
		for _, p := range []int{1, 200} {
			first, ok := impl.Rotate(k, p, 0)
			second, fine := impl.Vector(k, p, 0)
			if !ok || !fine || !sameKern(first, k) || !sameKern(second, k) {
				t.Fatalf("%v behind no step: %v, %v", k, first, second)
			}
		}
	}
}

// What begins with 480 bits may end with more.
func TestTurnsOfTheLongest(t *testing.T) {
	known := stepAngles{}
	most := near(mostKernBits, -1)
	for _, k := range []impl.Kern{kernOf(most, most, most), kernOf(negativeOf(most), most, negativeOf(most)), kernOf(negativeOf(most), negativeOf(most), most)} {
		for _, n := range []int{1, 2, 120} {
			for _, p := range []int{1, 200} {
				known.check(t, k, p, n)
			}
		}
	}
	got, ok := impl.Rotate(kernOf(most, negativeOf(most), most), 200, 1)
	if !ok || bigOfWhole(got.X).BitLen() != mostKernBits+1 || impl.KernOk(got) {
		t.Error("twice the longest:", got, ok)
	}
}

func TestStepsForEachPlace(t *testing.T) {
	for p := 1; p <= mostKernAt; p++ {
		if got := impl.StepsFor(p); got != min(p+2, 120) {
			t.Errorf("StepsFor(%d) = %d", p, got)
		}
	}
	for p, want := range map[int]int{1: 3, 10: 12, 117: 119, 118: 120, 119: 120, 200: 120, 201: 0, 0: 0, -1: 0} {
		if got := impl.StepsFor(p); got != want {
			t.Errorf("StepsFor(%d) = %d, want %d", p, got, want)
		}
	}
	for _, p := range noKernPlaces {
		if got := impl.StepsFor(p); got != 0 {
			t.Errorf("StepsFor(%d) = %d", p, got)
		}
	}
}

func TestTurnsRefuse(t *testing.T) {
	t.Parallel()
	k := smallKern(100, -7, 300)
	for _, p := range slices.Concat(noKernPlaces, []int{1, 200}) {
		for _, n := range slices.Concat(noSteps, []int{0, 1, 120}) {
			if slices.Contains(noKernPlaces, p) || slices.Contains(noSteps, n) {
				refusedKern(t, "out of bounds", k, p, n)
				continue
			}
			_, ok := impl.Rotate(k, p, n)
			_, fine := impl.Vector(k, p, n)
			if !ok || !fine {
				t.Errorf("%d steps at %d are refused", n, p)
			}
		}
	}
	for _, bad := range badKerns() {
		for _, n := range []int{0, 1, 120, 121} {
			for _, p := range []int{0, 1, 200} {
				refusedKern(t, "what is none", bad, p, n)
			}
		}
	}
}

// Promise 29: every function answers at any arguments, and writes into none; what was answered once is answered again.

func TestTurnsWriteIntoNothingAndShareNothing(t *testing.T) {
	t.Parallel()
	defer mustNotPanic(t)
	numbers := []int{math.MinInt, -1, 0, 1, 3, 201, math.MaxInt}
	for _, k := range append(goodKerns(), badKerns()...) {
		x, rooms := layKern(k)
		impl.KernOk(x)
		for _, p := range numbers {
			for _, n := range numbers {
				first, ok := impl.Rotate(x, p, n)
				again, fine := impl.Rotate(x, p, n)
				if ok != fine || !sameKern(first, again) {
					t.Fatalf("Rotate(%v, %d, %d) is another one the second time", briefKern(k), p, n)
				}
				second, _ := impl.Vector(x, p, n)
				checkApart(t, "Rotate or Vector", rooms, first.X.Mag, first.Y.Mag, first.Z.Mag, second.X.Mag, second.Y.Mag, second.Z.Mag, again.X.Mag, again.Y.Mag, again.Z.Mag)
			}
		}
	}
	a, room := layWhole(impl.WholeOf(-123456789))
	for _, n := range []int{0, 1, 121} {
		got, _ := impl.Rotate(impl.Kern{X: a, Y: a, Z: a}, 10, n)
		checkApart(t, "a kern of one list", []laid{room}, got.X.Mag, got.Y.Mag, got.Z.Mag)
	}
}

// What was handed out is written over; asked in another order and by many at once it is answered as it was.
func TestTurnsAreAnsweredAgain(t *testing.T) {
	kerns := goodKerns()
	ask := func(i int) string {
		text := ""
		for _, do := range []func(impl.Kern, int, int) (impl.Kern, bool){impl.Rotate, impl.Vector} {
			got, _ := do(kerns[i], 20+i%3, 10)
			text += impl.WholeText(got.X) + " " + impl.WholeText(got.Y) + " " + impl.WholeText(got.Z) + ";"
			for _, list := range [][]int{got.X.Mag, got.Y.Mag, got.Z.Mag} {
				clear(list)
			}
		}
		return text
	}
	var told []string
	for i := range kerns {
		told = append(told, ask(i))
	}
	var all sync.WaitGroup
	for range 4 {
		all.Go(func() {
			for i, want := range slices.Backward(told) {
				if got := ask(i); got != want {
					t.Errorf("the %dth: %s, and was %s", i, got, want)
				}
			}
		})
	}
	all.Wait()
}
