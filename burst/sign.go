package burst

import "bogworks/api"

// sign is something that was seen.
type sign interface {
	// tells returns the bounds that hold if the sign is right.
	tells() []bound
}

// ofWater is that on a day the water was brown.
type ofWater struct{ day int }

// ofBank is that on a day a bank was seen to bear little more than the water that there was: from nothing to so much more.
type ofBank struct {
	ofWater
	bank, most int
}

// place returns the place of the water on the day of the sign.
func (s ofWater) place() int { return wet(s.day) }

func (s ofWater) tells() []bound { return []bound{{nought, s.place(), -api.BurstBrowns}} }

func (s ofBank) tells() []bound {
	return differ(firm(s.bank), s.place(), api.Span{Lo: 0, Hi: s.most})
}

// read returns what a sign of a valid bog is.
func read(s api.BurstSign) sign {
	switch s.Kind {
	case api.BurstCrack:
		return ofBank{ofWater{s.Day}, s.Bank, api.BurstCracks}
	case api.BurstSwell:
		return ofBank{ofWater{s.Day}, s.Bank, api.BurstSwells}
	}
	return ofWater{s.Day}
}
