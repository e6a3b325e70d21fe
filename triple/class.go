// Package triple: classes of triples, and the shares of triples that are made out of draws.
package triple

import "dealer/api"

// shape: a class's triple is so many products of matrices, one behind the other, each of m rows of k by k rows of n.
type shape struct {
	products, m, k, n int
}

// IsClass tells whether c is a class.
func IsClass(c api.Class) bool {
	switch c.Kind {
	case api.Scalar:
		return c.M == 1 && c.K == 1 && c.N == 1
	case api.Matrix:
		return isSide(c.M) && isSide(c.K) && isSide(c.N)
	case api.Bits:
		return isSide(c.M) && c.K == 1 && c.N == 1
	}
	return false
}

// Draws is how many draws a triple of the class takes.
func Draws(c api.Class) int {
	a, b, _ := shapeOf(c).lengths()
	return a + b + Words(c)
}

// Words is how many words the shares of one party of a triple of the class are.
func Words(c api.Class) int {
	a, b, product := shapeOf(c).lengths()
	return a + b + product
}

func isSide(n int) bool {
	return n >= 1 && n <= api.MaxSide
}

func shapeOf(c api.Class) shape {
	if c.Kind == api.Bits {
		return shape{products: c.M, m: 1, k: 1, n: 1}
	}
	return shape{products: 1, m: c.M, k: c.K, n: c.N}
}

// lengths are how many words a, b and their product are.
func (s shape) lengths() (a, b, product int) {
	return s.products * s.m * s.k, s.products * s.k * s.n, s.products * s.m * s.n
}
