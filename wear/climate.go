package wear

import "thatch/api"

// rate returns what a season takes of a face. The flatter it is, and the more shade, the longer it stays wet; moss may take more.
func rate(c api.Climate, rise, run, shade, moss int) api.Span {
	wet := (100 + shade) * (rise + run)
	return api.Span{
		Low:  c.Take.Low * wet / (200 * rise),
		High: quotientUp(c.Take.High*wet*(100+moss), 20000*rise),
	}
}

// quotientUp is rounded up; both numbers are not below 0.
func quotientUp(n, by int) int { return (n + by - 1) / by }
