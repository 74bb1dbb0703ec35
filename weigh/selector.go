package weigh

import "vitrine/api"

// The lists here are valid, so that they are not too deep, and have few enough selectors to go through all of them. A list without a text may still weigh more than a valid weight.

// ofList returns the weight of a list, which may be empty.
func ofList(l []api.Complex) api.Weight {
	var most api.Weight
	for _, c := range l {
		if w := ofComplex(c); compare(w, most) > 0 {
			most = w
		}
	}
	return most
}

func ofComplex(c api.Complex) api.Weight {
	var all api.Weight
	for _, p := range c.Parts {
		all = sum(all, ofCompound(p))
	}
	return all
}

func ofCompound(p api.Compound) api.Weight {
	all := ofTag(p.Tag)
	for _, s := range p.Simples {
		all = sum(all, ofSimple(s))
	}
	return all
}

func ofTag(tag string) api.Weight {
	if tag == "" || tag == "*" {
		return api.Weight{}
	}
	return api.Weight{0, 0, 1}
}

func ofSimple(s api.Simple) api.Weight {
	switch s.Kind {
	case api.SimId:
		return api.Weight{1, 0, 0}
	case api.SimNth, api.SimNthLast:
		// Without Of the list is empty, and weighs nothing.
		return sum(api.Weight{0, 1, 0}, ofList(s.List))
	case api.SimIs, api.SimNot, api.SimHas:
		return ofList(s.List)
	case api.SimWhere:
		return api.Weight{}
	}
	return api.Weight{0, 1, 0}
}
