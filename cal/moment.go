package cal

import "qanat/api"

func isTime(micro int) bool { return inRange(micro, 0, api.DayMicro-1) }

func isMoment(m api.Moment) bool { return isDay(m.Day) && isTime(m.Micro) }

// After returns the moment n ticks after a moment.
func After(m api.Moment, n, tick int) (api.Moment, api.Errno) {
	if !isMoment(m) || !inRange(n, 0, api.MaxSteps) || !inRange(tick, 0, api.MaxTick) {
		return api.Moment{}, api.ErrArg
	}
	micro := m.Micro + n*tick
	day := m.Day + micro/api.DayMicro
	if !isDay(day) {
		return api.Moment{}, api.ErrRange
	}
	return api.Moment{Day: day, Micro: micro % api.DayMicro}, api.OK
}

// Between returns the time from one moment to another as days and microseconds.
func Between(a, b api.Moment) (int, int, api.Errno) {
	if !isMoment(a) || !isMoment(b) {
		return 0, 0, api.ErrArg
	}
	days, micro := b.Day-a.Day, b.Micro-a.Micro
	if micro < 0 {
		days--
		micro += api.DayMicro
	}
	return days, micro, api.OK
}

// Elapsed formats a number of microseconds as seconds.
func Elapsed(micro int) (string, api.Errno) {
	if micro < 0 {
		return "", api.ErrArg
	}
	if micro == 0 {
		return "0", api.OK
	}
	return joined(".", field{micro / second, 1}, field{micro % second, 6}), api.OK
}
