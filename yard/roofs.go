package yard

import (
	"slices"

	"thatch/api"
	"thatch/coat"
	"thatch/fault"
	"thatch/numbers"
	"thatch/roof"
	"thatch/run"
	"thatch/straw"
)

// lay returns the coats of all faces of a roof.
func lay(r api.Roof, m api.Custom, k api.Make) []api.Coat {
	fault.Raise(roof.Check(r))
	var coats []api.Coat
	for face := range r.Faces {
		a := fault.Must(roof.Lay(r, face))
		coats = append(coats, fault.Must(coat.Lay(a, m, k)))
	}
	return coats
}

// thatched is the coats of a roof, and the least wear with which water comes to a batten of any of them.
type thatched struct {
	coats []api.Coat
	need  int
}

func thatch(r api.Roof, m api.Custom, k api.Make) thatched {
	t := thatched{coats: lay(r, m, k)}
	if needs := fault.Must(run.House(r, t.coats)); len(needs) > 0 {
		t.need = slices.Min(needs)
	}
	return t
}

// count returns how many bundles coats have together.
func count(coats []api.Coat) int {
	n := 0
	for _, c := range coats {
		for _, k := range c.Courses {
			n += len(k.Bundles)
		}
	}
	return n
}

func sum(list []int) int {
	all := 0
	for _, n := range list {
		all += n
	}
	return all
}

func isRate(n int) bool { return numbers.IsFrom(n, 0, api.MaxRates) }

// supplied is a need, and the fields that surely give enough for it and cost least, if there are any.
type supplied struct {
	need   api.Need
	fields []int
	cost   int
	found  bool
}

func supply(r api.Roof, m api.Custom, k api.Make, f api.Farm, crop api.Crop, per int) supplied {
	bundles := count(lay(r, m, k))
	fault.Raise(straw.Check(f))
	fault.Unless(numbers.IsFrom(crop, api.CrReed, api.CrHeather) && numbers.IsFrom(per, 1, api.MaxPer), api.ErrArg)
	fault.Unless(per*bundles <= api.MaxLoads, api.ErrLimit)
	s := supplied{need: needOf(crop, per*bundles)}
	var e api.Errno
	s.fields, s.cost, s.found, e = straw.Choose(f, s.need)
	fault.Raise(e)
	return s
}

// needOf returns a need of so many loads of a crop, and of none of the others.
func needOf(crop api.Crop, loads int) api.Need {
	switch crop {
	case api.CrReed:
		return api.Need{Reed: loads}
	case api.CrStraw:
		return api.Need{Straw: loads}
	default:
		return api.Need{Heather: loads}
	}
}

// sheetsOf returns a sheet for each coat, without its Rank.
func sheetsOf(a api.Area, m api.Custom, coats []api.Coat) []api.Sheet {
	var sheets []api.Sheet
	for _, c := range coats {
		breach := fault.Must(coat.Broken(a, m, c))
		need, _, e := run.Leak(a, c)
		fault.Raise(e)
		sheets = append(sheets, api.Sheet{Breach: breach, Need: need, Count: count([]api.Coat{c})})
	}
	return sheets
}

// ranked returns sheets with their Ranks.
func ranked(sheets []api.Sheet) []api.Sheet {
	for i, s := range sheets {
		sheets[i].Rank = 1
		for _, o := range sheets {
			if isBetter(o, s) {
				sheets[i].Rank++
			}
		}
	}
	return sheets
}

// isBetter reports whether the coat of a sheet is better than that of another one.
func isBetter(s, o api.Sheet) bool {
	switch {
	case isKept(s.Breach) != isKept(o.Breach):
		return isKept(s.Breach)
	case s.Need != o.Need:
		return s.Need > o.Need
	default:
		return s.Count < o.Count
	}
}

// isKept reports whether no rule is broken.
func isKept(b api.Breach) bool { return b.Kind == api.BrNone }
