package tests

import (
	"math/big"
	"sync"
	"testing"

	"loop.example/g00481/impl"
)

// The true values, reckoned in other ways than the document's, to far more bits than are ever asked for.

const truthBits = 900

func exactly(n int) *big.Float { return new(big.Float).SetPrec(truthBits).SetInt64(int64(n)) }

func realOf(n *big.Int) *big.Float { return new(big.Float).SetPrec(truthBits).SetInt(n) }

// a times 2^k.
func scaled(a *big.Float, k int) *big.Float {
	return new(big.Float).SetPrec(truthBits).SetMantExp(a, k)
}

func sumOf(a *big.Float, b *big.Float) *big.Float {
	return new(big.Float).SetPrec(truthBits).Add(a, b)
}

func lessOf(a *big.Float, b *big.Float) *big.Float {
	return new(big.Float).SetPrec(truthBits).Sub(a, b)
}

func productOf(a *big.Float, b *big.Float) *big.Float {
	return new(big.Float).SetPrec(truthBits).Mul(a, b)
}

func quotientOf(a *big.Float, b *big.Float) *big.Float {
	return new(big.Float).SetPrec(truthBits).Quo(a, b)
}

func rootOf(a *big.Float) *big.Float { return new(big.Float).SetPrec(truthBits).Sqrt(a) }

func oppositeOf(a *big.Float) *big.Float { return new(big.Float).SetPrec(truthBits).Neg(a) }

// v by 2^f.
func wordValue(v int, f int) *big.Float { return scaled(exactly(v), -f) }

func tooSmall(a *big.Float) bool { return a.Sign() == 0 || a.MantExp(nil) < -truthBits }

// Means of 1 and the root of a half, nearer and nearer.
var truePi = sync.OnceValue(func() *big.Float {
	a, b, rest := exactly(1), rootOf(scaled(exactly(1), -1)), scaled(exactly(1), -2)
	for k := range 12 {
		mean := scaled(sumOf(a, b), -1)
		off := lessOf(a, mean)
		rest = lessOf(rest, scaled(productOf(off, off), k))
		a, b = mean, rootOf(productOf(a, b))
	}
	sum := sumOf(a, b)
	return quotientOf(productOf(sum, sum), scaled(rest, 2))
})

// 1 by k 2^k, all together.
var trueLn2 = sync.OnceValue(func() *big.Float {
	sum := exactly(0)
	for k := 1; k <= truthBits+10; k++ {
		sum = sumOf(sum, quotientOf(scaled(exactly(1), -k), exactly(k)))
	}
	return sum
})

// The power of a 2^40th part, squared 40 times.
func trueExp(x *big.Float) *big.Float {
	const halvings = 40
	small := scaled(x, -halvings)
	power, term := exactly(1), exactly(1)
	for k := 1; !tooSmall(term); k++ {
		term = quotientOf(productOf(term, small), exactly(k))
		power = sumOf(power, term)
	}
	for range halvings {
		power = productOf(power, power)
	}
	return power
}

// What is nearer to a logarithm by each step: twice (x less its power) by (x and its power).
func trueLog(x *big.Float) *big.Float {
	exponent := x.MantExp(nil)
	reduced := scaled(x, -exponent)
	log := exactly(0)
	for range 9 {
		power := trueExp(log)
		log = sumOf(log, scaled(quotientOf(lessOf(reduced, power), sumOf(reduced, power)), 1))
	}
	return sumOf(log, productOf(exactly(exponent), trueLn2()))
}

// Sine and cosine of an angle: of its 2^10th part, doubled, once whole turns are taken away.
func trueWave(x *big.Float) (*big.Float, *big.Float) {
	const halvings = 10
	turn := scaled(truePi(), 1)
	turns, _ := quotientOf(x, turn).Int(nil)
	small := scaled(lessOf(x, productOf(realOf(turns), turn)), -halvings)
	square := oppositeOf(productOf(small, small))
	sine, cosine := exactly(0), exactly(0)
	odd, even := small, exactly(1)
	for k := 1; !tooSmall(odd) || !tooSmall(even); k += 2 {
		sine, cosine = sumOf(sine, odd), sumOf(cosine, even)
		even = quotientOf(productOf(even, square), exactly(k*(k+1)))
		odd = quotientOf(productOf(odd, square), exactly((k+1)*(k+2)))
	}
	for range halvings {
		sine, cosine = scaled(productOf(sine, cosine), 1), lessOf(productOf(cosine, cosine), productOf(sine, sine))
	}
	return sine, cosine
}

// Half the angle has the tangent x by (1 and the root of 1 and x x).
func trueAtan(x *big.Float) *big.Float {
	const halvings = 30
	for range halvings {
		x = quotientOf(x, sumOf(exactly(1), rootOf(sumOf(exactly(1), productOf(x, x)))))
	}
	square := oppositeOf(productOf(x, x))
	angle, power := exactly(0), x
	for k := 1; !tooSmall(power); k += 2 {
		angle = sumOf(angle, quotientOf(power, exactly(k)))
		power = productOf(power, square)
	}
	return scaled(angle, halvings)
}

// The angle of the point (x, y), from above -pi to pi.
func trueAngle(y int, x int) *big.Float {
	switch {
	case x > 0:
		return trueAtan(quotientOf(exactly(y), exactly(x)))
	case x == 0 && y > 0:
		return scaled(truePi(), -1)
	case x == 0:
		return oppositeOf(scaled(truePi(), -1))
	}
	angle := trueAtan(quotientOf(exactly(y), exactly(x)))
	if y < 0 {
		return lessOf(angle, truePi())
	}
	return sumOf(angle, truePi())
}

// The true value lies between the ends of what is answered at p.
func checkBetween(t *testing.T, name string, got impl.Iv, p int, value *big.Float) {
	t.Helper()
	lo, hi := endsOf(got)
	at := scaled(value, p)
	if realOf(lo).Cmp(at) > 0 || realOf(hi).Cmp(at) < 0 {
		t.Fatalf("%s at %d: from %v to %v does not hold %s", name, p, lo, hi, at.Text('f', 3))
	}
}

// And these are at most so far from each other.
func checkTrue(t *testing.T, name string, got impl.Iv, p int, value *big.Float, width int64) {
	t.Helper()
	checkBetween(t, name, got, p, value)
	lo, hi := endsOf(got)
	if new(big.Int).Sub(hi, lo).Cmp(big.NewInt(width)) > 0 {
		t.Fatalf("%s at %d: from %v to %v is wider than %d", name, p, lo, hi, width)
	}
}

// What a function from FuExp on is of a and b by 2^f; a power is asked for where it is not too great.
func trueValue(fn int, turns bool, f int, a int, b int) *big.Float {
	switch fn {
	case impl.FuExp:
		return trueExpOfWord(a, f)
	case impl.FuLog:
		return trueLog(wordValue(a, f))
	case impl.FuSin, impl.FuCos, impl.FuTan:
		return trueWaveValue(fn, turns, f, a)
	case impl.FuAtan:
		return trueAngleValue(a, 1<<f, turns)
	case impl.FuAtan2:
		return trueAngleValue(a, b, turns)
	case impl.FuAtanh:
		return trueAtanh(wordValue(a, f))
	}
	power, inverse := truePowers(a, f)
	difference, sum := lessOf(power, inverse), sumOf(power, inverse)
	switch fn {
	case impl.FuSinh:
		return scaled(difference, -1)
	case impl.FuCosh:
		return scaled(sum, -1)
	}
	return lessThanOne(quotientOf(difference, sum))
}

func trueWaveValue(fn int, turns bool, f int, a int) *big.Float {
	s, c := trueWave(angleValue(a, f, turns))
	if turns {
		s, c = whole(s), whole(c)
	}
	switch fn {
	case impl.FuSin:
		return s
	case impl.FuCos:
		return c
	}
	return quotientOf(s, c)
}

func trueAngleValue(y int, x int, turns bool) *big.Float {
	angle := trueAngle(y, x)
	if turns {
		return eighths(quotientOf(angle, scaled(truePi(), 1)))
	}
	return angle
}

// No hyperbolic tangent is 1 or -1, however near it comes.
func lessThanOne(a *big.Float) *big.Float {
	least := scaled(exactly(1), 20-truthBits)
	switch {
	case a.Cmp(exactly(1)) == 0:
		return lessOf(a, least)
	case a.Cmp(exactly(-1)) == 0:
		return sumOf(a, least)
	}
	return a
}
