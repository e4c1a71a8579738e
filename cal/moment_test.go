package cal_test

import (
	"math"
	"math/rand"
	"strconv"
	"testing"

	"qanat/api"
	"qanat/cal"
)

// someMoments returns moments, some of them at the ends of the calendar and of a day.
func someMoments(seed int64) []api.Moment {
	r := rand.New(rand.NewSource(seed))
	var list []api.Moment
	for range 500 {
		for _, day := range []int{0, api.MaxDay, r.Intn(api.MaxDay + 1), api.MaxDay - r.Intn(1000000)} {
			for _, micro := range []int{0, api.DayMicro - 1, r.Intn(api.DayMicro)} {
				list = append(list, api.Moment{Day: day, Micro: micro})
			}
		}
	}
	return list
}

// noMoments returns moments that are not valid.
func noMoments() []api.Moment {
	var list []api.Moment
	for _, day := range outside(0, api.MaxDay) {
		list = append(list, api.Moment{Day: day}, api.Moment{Day: day, Micro: -1})
	}
	for _, micro := range outside(0, api.DayMicro-1) {
		list = append(list, api.Moment{Micro: micro}, api.Moment{Day: api.MaxDay, Micro: micro})
	}
	return list
}

// P4.7: the moment after ticks.
func TestAfter(t *testing.T) {
	last := api.Moment{Day: api.MaxDay, Micro: api.DayMicro - 1}
	for _, c := range []struct {
		m       api.Moment
		n, tick int
		want    api.Moment
		e       api.Errno
	}{
		{api.Moment{}, 0, 0, api.Moment{}, api.OK},
		{api.Moment{}, 1, 1, api.Moment{Micro: 1}, api.OK},
		{api.Moment{}, 1, api.DayMicro, api.Moment{Day: 1}, api.OK},
		{api.Moment{Day: 5, Micro: api.DayMicro - 1}, 2, 1, api.Moment{Day: 6, Micro: 1}, api.OK},
		{api.Moment{Micro: api.DayMicro - 1}, 1, 1, api.Moment{Day: 1}, api.OK},
		{api.Moment{}, api.MaxSteps, api.MaxTick, api.Moment{Day: 1157407, Micro: 35200000000}, api.OK},
		{last, 0, api.MaxTick, last, api.OK},
		{last, api.MaxSteps, 0, last, api.OK},
		{last, 1, 1, api.Moment{}, api.ErrRange},
		{api.Moment{Day: api.MaxDay, Micro: api.DayMicro - 2}, 1, 1, last, api.OK},
		{last, api.MaxSteps, api.MaxTick, api.Moment{}, api.ErrRange},
		{last, -1, 1, api.Moment{}, api.ErrArg},
		{last, api.MaxSteps + 1, 1, api.Moment{}, api.ErrArg},
		{last, 1, -1, api.Moment{}, api.ErrArg},
		{last, 1, api.MaxTick + 1, api.Moment{}, api.ErrArg},
		{api.Moment{}, -1, -1, api.Moment{}, api.ErrArg},
		{api.Moment{}, math.MaxInt, 0, api.Moment{}, api.ErrArg},
		{api.Moment{}, 0, math.MinInt, api.Moment{}, api.ErrArg},
	} {
		if m, e := cal.After(c.m, c.n, c.tick); e != c.e || m != c.want {
			t.Errorf("%v: After is %v, %v", c, m, e)
		}
	}
	for _, m := range noMoments() {
		if m, e := cal.After(m, 0, 0); e != api.ErrArg || m != (api.Moment{}) {
			t.Errorf("After of no moment is %v, %v", m, e)
		}
	}
}

// P4.7: the time between two moments.
func TestBetween(t *testing.T) {
	last := api.Moment{Day: api.MaxDay, Micro: api.DayMicro - 1}
	for _, c := range []struct {
		a, b        api.Moment
		days, micro int
	}{
		{last, last, 0, 0},
		{api.Moment{}, last, api.MaxDay, api.DayMicro - 1},
		{last, api.Moment{}, -api.MaxDay - 1, 1},
		{api.Moment{Day: 1}, api.Moment{Micro: 1}, -1, 1},
		{api.Moment{Micro: 1}, api.Moment{Day: 1}, 0, api.DayMicro - 1},
		{api.Moment{Micro: 1}, api.Moment{}, -1, api.DayMicro - 1},
		{api.Moment{Day: 3, Micro: 7}, api.Moment{Day: 1, Micro: 7}, -2, 0},
	} {
		if days, micro, e := cal.Between(c.a, c.b); e != api.OK || days != c.days || micro != c.micro {
			t.Errorf("%v: Between is %d, %d, %v", c, days, micro, e)
		}
	}
	for _, m := range noMoments() {
		if days, micro, e := cal.Between(m, last); e != api.ErrArg || days != 0 || micro != 0 {
			t.Errorf("Between of %v and a moment is %d, %d, %v", m, days, micro, e)
		}
		if days, micro, e := cal.Between(last, m); e != api.ErrArg || days != 0 || micro != 0 {
			t.Errorf("Between of a moment and %v is %d, %d, %v", m, days, micro, e)
		}
	}
}

// P4.7: seconds.
func TestElapsed(t *testing.T) {
	for micro, want := range map[int]string{
		0: "0", 1: "0.000001", 999999: "0.999999", 1000000: "1.000000", 1500000: "1.500000", 60000000: "60.000000",
		api.DayMicro: "86400.000000", math.MaxInt: strconv.Itoa(math.MaxInt/1000000) + ".775807",
	} {
		if s, e := cal.Elapsed(micro); e != api.OK || s != want {
			t.Errorf("Elapsed(%d) is %q, %v", micro, s, e)
		}
	}
	for _, micro := range []int{-1, -1000000, math.MinInt} {
		if s, e := cal.Elapsed(micro); e != api.ErrArg || s != "" {
			t.Errorf("Elapsed(%d) is %q, %v", micro, s, e)
		}
	}
}
