package wire

import (
	"slices"

	"dealer/api"
)

// field is a number of a request: where it stands, how many bytes it takes, and the most that it may be.
type field struct {
	at   *int
	size int
	most int
}

func (r *Lease) fields() []field {
	return slices.Concat(numbers(&r.Session, &r.Id), class(&r.Class), numbers(&r.Count))
}

func (r *Fetch) fields() []field {
	return slices.Concat(numbers(&r.Session), class(&r.Class), numbers(&r.From, &r.Count), octets(&r.Party))
}

func (r *Release) fields() []field {
	return numbers(&r.Session, &r.Id)
}

func (r *Status) fields() []field {
	return class(&r.Class)
}

func class(c *api.Class) []field {
	return octets(&c.Kind, &c.M, &c.K, &c.N)
}

func numbers(places ...*int) []field {
	return alike(4, api.MaxNumber, places)
}

func octets(places ...*int) []field {
	return alike(1, 255, places)
}

func alike(size, most int, places []*int) []field {
	var fields []field
	for _, at := range places {
		fields = append(fields, field{at: at, size: size, most: most})
	}
	return fields
}

// fit tells whether every number is one that its field may hold.
func fit(fields []field) bool {
	for _, f := range fields {
		if *f.at < 0 || *f.at > f.most {
			return false
		}
	}
	return true
}
