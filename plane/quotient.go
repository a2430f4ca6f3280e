package plane

import (
	"cmp"

	"thatch/api"
	"thatch/numbers"
)

// Quotient is an api.Ratio that can be reckoned with. It is in lowest terms, so that equal ones are one key of a map.
type Quotient api.Ratio

func lowestTerms(num, den int) Quotient { return Quotient(numbers.LowestTerms(num, den)) }

// Whole returns a number as a quotient.
func Whole(n int) Quotient { return Quotient{Num: n, Den: 1} }

// Compare is below 0 for a quotient that is less than another one, 0 for the same one, and above 0 otherwise.
func (q Quotient) Compare(o Quotient) int { return cmp.Compare(q.Num*o.Den, o.Num*q.Den) }

// Between returns a quotient that is greater than the lesser one of two and less than the greater one. Its Den is at most those of both together; that keeps a spot within MaxFine and MaxFiner.
func (q Quotient) Between(o Quotient) Quotient { return lowestTerms(q.Num+o.Num, q.Den+o.Den) }
