package coat

import (
	"cmp"

	"thatch/api"
)

// quotient is an api.Ratio that can be reckoned with. It is in lowest terms, so that equal ones are one key of a map.
type quotient api.Ratio

// lowestTerms wants a den above 0.
func lowestTerms(num, den int) quotient {
	a, b := max(num, -num), den
	for b != 0 {
		a, b = b, a%b
	}
	return quotient{Num: num / a, Den: den / a}
}

func whole(n int) quotient { return quotient{Num: n, Den: 1} }

func (q quotient) compare(o quotient) int { return cmp.Compare(q.Num*o.Den, o.Num*q.Den) }

// between returns a quotient that is greater than the lesser one of two and less than the greater one. Its Den is at most those of both together; that keeps a spot within MaxFine and MaxFiner.
func (q quotient) between(o quotient) quotient { return lowestTerms(q.Num+o.Num, q.Den+o.Den) }
