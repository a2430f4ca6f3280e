package coat

import (
	"cmp"

	"thatch/api"
	"thatch/numbers"
)

// quotient is an api.Ratio that can be reckoned with. It is in lowest terms, so that equal ones are one key of a map.
type quotient api.Ratio

func lowestTerms(num, den int) quotient { return quotient(numbers.LowestTerms(num, den)) }

func whole(n int) quotient { return quotient{Num: n, Den: 1} }

func (q quotient) compare(o quotient) int { return cmp.Compare(q.Num*o.Den, o.Num*q.Den) }

// between returns a quotient that is greater than the lesser one of two and less than the greater one. Its Den is at most those of both together; that keeps a spot within MaxFine and MaxFiner.
func (q quotient) between(o quotient) quotient { return lowestTerms(q.Num+o.Num, q.Den+o.Den) }
