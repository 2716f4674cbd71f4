package wheels

import "nosale/api"

// unread stands for a digit that was not read, or is not known.
const unread = -1

// checkWheels returns the first bell of the wheels of a book.
func checkWheels(wheels []api.WheelsWheel) api.Bell {
	if len(wheels) < 1 || len(wheels) > api.MaxWheelsWide {
		return api.Count
	}
	for _, w := range wheels {
		if s := checkWheel(w); s != api.Fine {
			return s
		}
	}
	return api.Fine
}

// checkWheel returns the bell of a wheel.
func checkWheel(w api.WheelsWheel) api.Bell {
	switch w.Kind {
	case api.WheelsTight, api.WheelsDrops, api.WheelsDoubles:
		if w.Base >= 2 && w.Base <= api.MaxWheelsBase {
			return api.Fine
		}
		fallthrough
	default:
		return api.Bound
	}
}

// checkStart returns the first bell of the start of a book whose wheels have none.
func checkStart(b api.WheelsBook) api.Bell {
	if s := checkDigits(b.Wheels, unread, b.Start); s != api.Fine {
		return s
	}
	open := 0
	for _, d := range b.Start {
		if d == unread {
			open++
		}
	}
	if open > api.MaxWheelsOpen {
		return api.Count
	}
	return api.Fine
}

// checkRings returns the first bell of the rings of a book whose wheels have none.
func checkRings(b api.WheelsBook) api.Bell {
	if len(b.Rings) > api.MaxWheelsRings {
		return api.Count
	}
	for _, r := range b.Rings {
		if s := checkDigits(b.Wheels, 0, r.Keys); s != api.Fine {
			return s
		}
		if len(r.Read) == 0 {
			continue
		}
		if s := checkDigits(b.Wheels, unread, r.Read); s != api.Fine {
			return s
		}
	}
	return api.Fine
}

// checkDigits returns the first bell of lists that have a number for each wheel, each of them from lowest on and below the wheel's base.
func checkDigits(wheels []api.WheelsWheel, lowest int, lists ...[]int) api.Bell {
	for _, list := range lists {
		if len(list) != len(wheels) {
			return api.Count
		}
		for w, d := range list {
			if d < lowest || d >= wheels[w].Base {
				return api.Bound
			}
		}
	}
	return api.Fine
}
