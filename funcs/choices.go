package funcs

import (
	"marquee/api"
	"marquee/arith"
	"marquee/value"
)

func coalesce(args ...api.Value) (api.Value, api.Errno) {
	l, err := inTheirKind(args...)
	if err != api.OK {
		return api.Value{}, err
	}
	for _, v := range l {
		if v.Kind != api.KindNull {
			return v, api.OK
		}
	}
	return api.Value{}, api.OK
}

func greatest(args ...api.Value) (api.Value, api.Errno) { return farthest(1, args...) }

func least(args ...api.Value) (api.Value, api.Errno) { return farthest(-1, args...) }

// farthest answers the first value that none lies beyond; way is what Compare says of one beyond.
func farthest(way int, args ...api.Value) (api.Value, api.Errno) {
	l, err := inTheirKind(args...)
	if err != api.OK {
		return api.Value{}, err
	}
	best := l[0]
	for _, v := range l[1:] {
		if c, _ := value.Compare(v, best); c == way {
			best = v
		}
	}
	return best, api.OK
}

// inTheirKind answers values that are alike as values of their kind; null stays.
func inTheirKind(args ...api.Value) ([]api.Value, api.Errno) {
	kind, _ := common(kindsOf(args...)...)
	if kind != api.KindDec {
		return args, api.OK
	}
	var l []api.Value
	for _, v := range args {
		d, err := arith.Dec(v)
		if err != api.OK {
			return nil, err
		}
		l = append(l, d)
	}
	return l, api.OK
}

func nullif(args ...api.Value) (api.Value, api.Errno) {
	if value.True(value.Equal(args[0], args[1])) {
		return api.Value{}, api.OK
	}
	return args[0], api.OK
}
