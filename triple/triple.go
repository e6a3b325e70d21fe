package triple

import (
	"slices"

	"dealer/api"
)

// Shares are those of one triple: for each party its shares of a, of b and of c, one behind the other.
type Shares [2][]uint64

// Make makes a triple of the class out of its draws, just as many as Draws says, and gives its shares.
func Make(c api.Class, draws []uint64) Shares {
	s, numbers := shapeOf(c), arithmeticOf(c)
	a, b, _ := s.lengths()
	first := slices.Clone(draws[a+b:])
	whole := slices.Concat(draws[:a+b], multiply(numbers, s, draws[:a], draws[a:a+b]))
	return Shares{first, rest(numbers, whole, first)}
}

// rest is what the other party must have, so that both shares together are the whole.
func rest(numbers arithmetic, whole, share []uint64) []uint64 {
	var other []uint64
	for i, word := range whole {
		other = append(other, numbers.minus(word, share[i]))
	}
	return other
}

func multiply(numbers arithmetic, s shape, a, b []uint64) []uint64 {
	var product []uint64
	left, right := s.m*s.k, s.k*s.n
	for i := range s.products {
		product = append(product, matrix(numbers, s, a[i*left:(i+1)*left], b[i*right:(i+1)*right])...)
	}
	return product
}

func matrix(numbers arithmetic, s shape, a, b []uint64) []uint64 {
	var product []uint64
	for row := range s.m {
		for column := range s.n {
			var sum uint64
			for i := range s.k {
				sum = numbers.plus(sum, numbers.times(a[row*s.k+i], b[i*s.n+column]))
			}
			product = append(product, sum)
		}
	}
	return product
}
