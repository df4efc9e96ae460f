// Package pixel: what may be a pixel, and what one laid over another one gives.
package pixel

import "pane/api"

const (
	alpha = 3   // where a pixel has it
	full  = 255 // the alpha that lets nothing through
)

// Black is what there is where no surface is.
func Black() api.Pixel {
	return api.Pixel{alpha: full}
}

// MayBe tells whether a pixel may be.
func MayBe(p api.Pixel) bool {
	return max(p[0], p[1], p[2]) <= p[alpha]
}

// Solid tells whether a pixel lets nothing through: laid over any other one, it is itself.
func Solid(p api.Pixel) bool {
	return p[alpha] == full
}

// Over gives s over d. Both may be; so no sum leaves a byte.
func Over(s api.Pixel, d api.Pixel) api.Pixel {
	through := full - int(s[alpha])
	p := s
	for i := range p {
		p[i] += uint8((int(d[i])*through + full/2) / full)
	}
	return p
}
