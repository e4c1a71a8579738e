package scan

import (
	"strings"

	"qanat/api"
)

// Lines returns the lines of a source, without their line feeds.
func Lines(src string) ([]string, api.Errno) {
	if len(src) > api.MaxSource {
		return nil, api.ErrLimit
	}
	if src == "" {
		return nil, api.OK
	}
	return strings.Split(strings.TrimSuffix(src, "\n"), "\n"), api.OK
}

// Place returns the line and the column of an offset in a source.
func Place(src string, at int) (int, int, api.Errno) {
	if len(src) > api.MaxSource {
		return 0, 0, api.ErrLimit
	}
	if at < 0 || at > len(src) {
		return 0, 0, api.ErrArg
	}
	before := src[:at]
	return 1 + strings.Count(before, "\n"), at - strings.LastIndex(before, "\n"), api.OK
}

// Edit returns a source in which the bytes from from to to - 1 are replaced.
func Edit(src string, from, to int, with string) (string, api.Errno) {
	if len(src) > api.MaxSource {
		return "", api.ErrLimit
	}
	if from < 0 || to < from || to > len(src) {
		return "", api.ErrArg
	}
	result := src[:from] + with + src[to:]
	if len(result) > api.MaxSource {
		return "", api.ErrLimit
	}
	return result, api.OK
}
