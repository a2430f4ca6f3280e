package wear

import "thatch/api"

// nothing is what two spans have in common that have no number in common. It is equal to no span of thicknesses, as none of these is below 0.
var nothing = api.Span{Low: 0, High: -1}

// common returns the span of the numbers that two spans have in common.
func common(a, b api.Span) api.Span {
	c := api.Span{Low: max(a.Low, b.Low), High: min(a.High, b.High)}
	if c.Low > c.High {
		return nothing
	}
	return c
}

// widened returns a span that begins so much lower, and ends so much higher.
func widened(s api.Span, by int) api.Span {
	return api.Span{Low: s.Low - by, High: s.High + by}
}

// lessened returns what may be left of thicknesses behind a season.
func lessened(s, take api.Span) api.Span {
	return api.Span{Low: max(0, s.Low-take.High), High: max(0, s.High-take.Low)}
}

// said returns the thicknesses for which a probe says reading, if it is wrong by at most so much.
func said(reading, wrong int) api.Span {
	return common(widened(api.Span{Low: reading, High: reading}, wrong), api.Span{Low: 0, High: api.MaxCoat})
}
