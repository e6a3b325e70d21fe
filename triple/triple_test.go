package triple

import (
	"math/big"
	"math/rand/v2"
	"slices"
	"testing"

	"dealer/api"
)

func allClasses() []api.Class {
	l := []api.Class{{Kind: api.Scalar, M: 1, K: 1, N: 1}}
	for m := 1; m <= api.MaxSide; m++ {
		l = append(l, api.Class{Kind: api.Bits, M: m, K: 1, N: 1})
		for k := 1; k <= api.MaxSide; k++ {
			for n := 1; n <= api.MaxSide; n++ {
				l = append(l, api.Class{Kind: api.Matrix, M: m, K: k, N: n})
			}
		}
	}
	return l
}

// productOf is c of a triple, reckoned by great numbers where there are sums.
func productOf(c api.Class, a, b []uint64) []uint64 {
	var product []uint64
	if c.Kind == api.Bits {
		for i := range a {
			product = append(product, a[i]&b[i])
		}
		return product
	}
	wrap := new(big.Int).Lsh(big.NewInt(1), 64)
	for row := range c.M {
		for column := range c.N {
			sum := new(big.Int)
			for i := range c.K {
				x, y := new(big.Int).SetUint64(a[row*c.K+i]), new(big.Int).SetUint64(b[i*c.N+column])
				sum.Add(sum, x.Mul(x, y))
			}
			product = append(product, sum.Mod(sum, wrap).Uint64())
		}
	}
	return product
}

// together is what the shares of both parties make.
func together(c api.Class, shares Shares) []uint64 {
	whole := slices.Clone(shares[0])
	for i, word := range shares[1] {
		if c.Kind == api.Bits {
			whole[i] ^= word
		} else {
			whole[i] += word
		}
	}
	return whole
}

// TestSharesMakeTheTriple: of every class, both shares together are a, b and c, and party 0 has what was drawn for it.
func TestSharesMakeTheTriple(t *testing.T) {
	random := rand.New(rand.NewPCG(3, 3))
	for _, c := range allClasses() {
		a, b, product := shapeOf(c).lengths()
		for range 50 {
			draws := make([]uint64, Draws(c))
			for i := range draws {
				draws[i] = random.Uint64()
			}
			shares := Make(c, draws)
			if len(shares[0]) != a+b+product || len(shares[1]) != a+b+product {
				t.Fatalf("%v: shares of %d and %d words", c, len(shares[0]), len(shares[1]))
			}
			if !slices.Equal(shares[0], draws[a+b:]) {
				t.Fatalf("%v: party 0 has %v of the draws %v", c, shares[0], draws)
			}
			want := slices.Concat(draws[:a+b], productOf(c, draws[:a], draws[a:a+b]))
			if whole := together(c, shares); !slices.Equal(whole, want) {
				t.Fatalf("%v: the draws %v make %v, want %v", c, draws, whole, want)
			}
		}
	}
}

func TestDraws(t *testing.T) {
	for _, c := range allClasses() {
		want := 2*(c.M*c.K+c.K*c.N) + c.M*c.N
		if c.Kind == api.Bits {
			want = 5 * c.M
		}
		if n := Draws(c); n != want {
			t.Errorf("Draws(%v) = %d, want %d", c, n, want)
		}
	}
}

func TestIsClass(t *testing.T) {
	all := allClasses()
	for kind := -2; kind <= 4; kind++ {
		for m := -1; m <= api.MaxSide+1; m++ {
			for k := -1; k <= api.MaxSide+1; k++ {
				for n := -1; n <= api.MaxSide+1; n++ {
					c := api.Class{Kind: kind, M: m, K: k, N: n}
					if IsClass(c) != slices.Contains(all, c) {
						t.Errorf("IsClass(%v) = %v", c, IsClass(c))
					}
				}
			}
		}
	}
}
