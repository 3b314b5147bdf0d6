package tests

import (
	"math/big"
	"testing"

	"loop.example/g00481/impl"
)

// What the document says of ends, on numbers without a bound: the tests of what is reckoned hold the program against it.

type pair struct{ lo, hi *big.Int }

func pairOf(v impl.Iv) pair {
	lo, hi := endsOf(v)
	return pair{lo, hi}
}

func (a pair) iv() impl.Iv { return ivOf(a.lo, a.hi) }

func onePair(n *big.Int) pair { return pair{n, n} }

// From the floor to the ceiling of a by b.
func fracPair(a *big.Int, b *big.Int) pair { return pair{floorOf(a, b), ceilingOf(a, b)} }

func (a pair) plus(b pair) pair {
	return pair{new(big.Int).Add(a.lo, b.lo), new(big.Int).Add(a.hi, b.hi)}
}

func (a pair) minus(b pair) pair {
	return pair{new(big.Int).Sub(a.lo, b.hi), new(big.Int).Sub(a.hi, b.lo)}
}

func (a pair) negative() pair { return pair{negativeOf(a.hi), negativeOf(a.lo)} }

func (a pair) wide(n int64) pair {
	return pair{new(big.Int).Sub(a.lo, big.NewInt(n)), new(big.Int).Add(a.hi, big.NewInt(n))}
}

// Both ends n times, the lesser first.
func (a pair) often(n *big.Int) pair {
	lo, hi := new(big.Int).Mul(a.lo, n), new(big.Int).Mul(a.hi, n)
	if lo.Cmp(hi) > 0 {
		return pair{hi, lo}
	}
	return pair{lo, hi}
}

func (a pair) times(n int) pair { return a.often(big.NewInt(int64(n))) }

func (a pair) moved(p int, q int) pair {
	if q >= p {
		return pair{new(big.Int).Lsh(a.lo, uint(q-p)), new(big.Int).Lsh(a.hi, uint(q-p))}
	}
	return pair{floorOf(a.lo, near(p-q, 0)), ceilingOf(a.hi, near(p-q, 0))}
}

func (a pair) mul(b pair, p int) pair {
	product := func(x *big.Int, y *big.Int) *big.Int { return new(big.Int).Mul(x, y) }
	least := product(a.lo, b.lo)
	most := least
	for _, n := range []*big.Int{product(a.lo, b.hi), product(a.hi, b.lo), product(a.hi, b.hi)} {
		if n.Cmp(least) < 0 {
			least = n
		}
		if n.Cmp(most) > 0 {
			most = n
		}
	}
	return pair{floorOf(least, near(p, 0)), ceilingOf(most, near(p, 0))}
}

func (a pair) div(b pair, p int) pair {
	quotient := func(x *big.Int, y *big.Int) *big.Rat { return fraction(new(big.Int).Lsh(x, uint(p)), y) }
	lo, hi := outward([4]*big.Rat{quotient(a.lo, b.lo), quotient(a.lo, b.hi), quotient(a.hi, b.lo), quotient(a.hi, b.hi)})
	return pair{lo, hi}
}

func (a pair) share(n int) pair {
	by := big.NewInt(int64(n))
	return pair{floorOf(a.lo, by), ceilingOf(a.hi, by)}
}

func (a pair) root(p int) pair {
	lo, hi := new(big.Int).Lsh(a.lo, uint(p)), new(big.Int).Lsh(a.hi, uint(p))
	return pair{roundedRoot(lo, 0, impl.MdDown), roundedRoot(hi, 0, impl.MdUp)}
}

func (a pair) spent() bool {
	one := big.NewInt(1)
	return a.lo.CmpAbs(one) <= 0 && a.hi.CmpAbs(one) <= 0
}

func (a pair) atLeast(n *big.Int) pair {
	return pair{maxOf(a.lo, n), maxOf(a.hi, n)}
}

func (a pair) atMost(n *big.Int) pair {
	return a.negative().atLeast(negativeOf(n)).negative()
}

func maxOf(a *big.Int, b *big.Int) *big.Int {
	if a.Cmp(b) < 0 {
		return b
	}
	return a
}

func checkPair(t *testing.T, name string, got impl.Iv, ok bool, want pair) {
	t.Helper()
	checkIv(t, name, got, ok, want.lo, want.hi)
}

// What is known at the greater q, moved to p, meets what is known at p, and lies within it, but for a step.
func checkMeets(t *testing.T, name string, more impl.Iv, q int, less impl.Iv, p int) {
	t.Helper()
	down, ok := impl.IvMove(more, q, p)
	wider, fine := impl.IvWide(less, 1)
	if !ok || !fine || !impl.IvMeet(down, less) || !impl.IvIn(down, wider) {
		t.Fatalf("%s: %v at %d does not lie within %v at %d", name, more, q, less, p)
	}
}

// Both lists of each of them; none of them shares memory with another one.
func endLists(vs ...impl.Iv) [][]int {
	var out [][]int
	for _, v := range vs {
		out = append(out, v.Lo.Mag, v.Hi.Mag)
	}
	return out
}
