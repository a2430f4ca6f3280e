package yard

import (
	"slices"

	"thatch/api"
	"thatch/coat"
	"thatch/fire"
	"thatch/fix"
	"thatch/mend"
	"thatch/numbers"
	"thatch/run"
	"thatch/straw"
	"thatch/wear"
)

// none is what stands for no year, no strip and no time.
const none = -1

// paper is a paper that is checked.
type paper api.Paper

// claims returns what a paper says, claim by claim, none if there are no papers of its kind.
func (p paper) claims() []func() bool {
	switch p.Kind {
	case api.PaKept:
		return []func() bool{p.isKept}
	case api.PaDry:
		return []func() bool{p.isDry}
	case api.PaFields:
		return []func() bool{p.isChosen}
	case api.PaHolds:
		return []func() bool{p.isCarried}
	case api.PaBreaks:
		return []func() bool{p.isBroken}
	case api.PaSkin:
		return []func() bool{p.isThick}
	case api.PaMend:
		return []func() bool{p.keepsSlopes, p.isCheapest}
	case api.PaFire:
		return []func() bool{p.isAllowed, p.isTimed, p.keepsSites}
	case api.PaCrew:
		return []func() bool{p.isTaken, p.isFastest}
	default:
		return nil
	}
}

// areTrue reports whether all claims are true. Each of them is looked at by a goroutine of its own.
func areTrue(claims []func() bool) bool {
	seen := make(chan bool)
	for _, isTrue := range claims {
		go func() { seen <- isTrue() }()
	}
	all := true
	for range claims {
		all = <-seen && all
	}
	return all
}

func (p paper) isKept() bool {
	b, e := coat.Broken(p.Area, p.Rule, p.Coat)
	return e == api.OK && isKept(b)
}

func (p paper) isDry() bool {
	proved, e := run.Proves(p.Area, p.Coat, p.Number, p.Numbers)
	return e == api.OK && proved
}

func (p paper) isChosen() bool {
	fields, cost, found, e := straw.Choose(p.Farm, p.Need)
	return e == api.OK && found && slices.Equal(fields, p.Numbers) && cost == p.Number
}

func (p paper) isCarried() bool {
	carries, e := fix.Carries(p.Net, p.Numbers)
	return e == api.OK && carries
}

func (p paper) isBroken() bool {
	breaks, e := fix.Breaks(p.Net, p.Numbers)
	return e == api.OK && breaks
}

func (p paper) isThick() bool {
	known, e := wear.Keeps(p.Skin, p.Number)
	return e == api.OK && known == api.KnYes
}

// keepsSlopes reports whether the plan keeps all slopes, and costs as much as the paper says.
func (p paper) keepsSlopes() bool {
	_, cost, at, e := mend.Follow(p.Works, p.Plan)
	return e == api.OK && at == none && cost == p.Number
}

// isCheapest reports whether the values show that no plan costs less.
func (p paper) isCheapest() bool {
	proved, e := mend.Proves(p.Works, p.Number, p.Worths)
	return e == api.OK && proved
}

func (p paper) isAllowed() bool {
	if len(p.Plan) != 1 {
		return false
	}
	at, e := fire.Allowed(p.Ground, p.Plan[0])
	return e == api.OK && at == none
}

// isTimed reports whether no site burns earlier than the paper says.
func (p paper) isTimed() bool {
	if len(p.Plan) != 1 {
		return false
	}
	proved, e := fire.Proves(p.Ground, p.Plan[0], p.Numbers)
	return e == api.OK && proved
}

// keepsSites reports whether no site that is to be kept burns by the time of the paper, if they burn when it says.
func (p paper) keepsSites() bool {
	for _, site := range p.Sites {
		if !numbers.IsFrom(site, 0, len(p.Numbers)-1) {
			return false
		}
		if time := p.Numbers[site]; time != none && time <= p.Number {
			return false
		}
	}
	return true
}

func (p paper) isTaken() bool {
	days, e := Takes(p.Crew, p.Numbers)
	return e == api.OK && days == p.Number
}

func (p paper) isFastest() bool {
	_, days, e := Fastest(p.Crew)
	return e == api.OK && days == p.Number
}
