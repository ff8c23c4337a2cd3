package scaling

import (
	"math"
	"math/rand/v2"
	"slices"
	"testing"

	"quintadena/api"
)

// calls returns what the functions with one scale and one note return: whether their results are zero, and the error.
func calls(s api.SlScale, note int) map[string]func() (bool, api.Errno) {
	return map[string]func() (bool, api.Errno){
		"Diameter": func() (bool, api.Errno) { v, e := Diameter(s, note); return v == api.Iv{}, e },
		"Mouth": func() (bool, api.Errno) {
			width, cut, e := Mouth(s, note)
			return width == api.Iv{} && cut == api.Iv{}, e
		},
		"Table":         func() (bool, api.Errno) { l, e := Table(s, note, note); return len(l) == 0, e },
		"Table falling": func() (bool, api.Errno) { l, e := Table(s, note, note-1); return len(l) == 0, e },
		"Halved":        func() (bool, api.Errno) { n, e := Halved(s, note); return n == 0, e },
		"Wider":         func() (bool, api.Errno) { k, e := Wider(s, principal(), note); return k == 0, e },
	}
}

// invalid are notes that no scale has.
func invalid() []int {
	return []int{-1, 140, 141, -36, math.MinInt, math.MaxInt}
}

// P7.2 to P7.4: the error of Check comes first, then that of the note; nothing else is returned then.
func TestOrderOfErrors(t *testing.T) {
	look := func(s api.SlScale, note int, want api.Errno) {
		t.Helper()
		for name, call := range calls(s, note) {
			if zero, e := call(); !zero || e != want {
				t.Errorf("%s of %v, %d: %v, %d, want %d", name, s, note, zero, e, want)
			}
		}
	}
	for _, note := range append(invalid(), 0, 36, 60) {
		for _, s := range badScales() {
			look(s, note, api.ErrArg)
		}
		for _, s := range longScales() {
			look(s, note, api.ErrLong)
		}
	}
	for _, note := range append(invalid(), 0, 35) {
		look(principal(), note, api.ErrArg)
	}
	for _, note := range []int{36, 139} {
		for name, call := range calls(principal(), note) {
			_, e := call()
			if want := name == "Table falling" || note == 139 && (name == "Halved" || name == "Wider"); want != (e != api.OK) {
				t.Errorf("%s of %d: %d", name, note, e)
			}
		}
	}
}

// P7.4: the error of s comes before that of t, and that before the note, which must be one of s and need not be one of t.
func TestOrderOfWider(t *testing.T) {
	look := func(s, other api.SlScale, note int, want api.Errno) {
		t.Helper()
		if k, e := Wider(s, other, note); k != 0 || e != want {
			t.Errorf("Wider(%v, %v, %d) = %d, %d, want %d", s, other, note, k, e, want)
		}
	}
	for _, note := range append(invalid(), 0, 36, 60) {
		for _, bad := range badScales() {
			look(principal(), bad, note, api.ErrArg)
			look(bad, principal(), note, api.ErrArg)
			for _, long := range longScales() {
				look(bad, long, note, api.ErrArg)
				look(long, bad, note, api.ErrLong)
			}
		}
		for _, long := range longScales() {
			look(principal(), long, note, api.ErrLong)
		}
	}
	low, high := changed(bends(api.SlBend{Note: 0, Half: 16})), changed(bends(api.SlBend{Note: 60, Half: 16}))
	for _, note := range append(invalid(), 0, 59) {
		look(high, low, note, api.ErrArg)
	}
	if k, e := Wider(low, high, 0); k != -60 || e != api.OK {
		t.Errorf("Wider at a note below those of t = %d, %d", k, e)
	}
}

// R1, R2: any arguments are accepted; with an error, all other results are zero.
func TestAnyArguments(t *testing.T) {
	source := rand.New(rand.NewPCG(7, 13))
	number := func() int64 {
		l := []int64{0, 1, -1, 7, 8, 20, 21, 64, 65, 139, 140, 1000, 50000, 500000, math.MaxInt64, math.MinInt64}
		if source.IntN(3) > 0 {
			return l[source.IntN(len(l))]
		}
		return int64(source.Uint64() >> source.IntN(64))
	}
	allowed := []api.Errno{api.OK, api.ErrArg, api.ErrLong, api.ErrNone}
	for range 2000 {
		s := anyScale(source)
		for _, p := range []*int64{&s.Diameter, &s.Constant, &s.MouthNum, &s.MouthDen, &s.CutNum, &s.CutDen} {
			if source.IntN(8) == 0 {
				*p = number()
			}
		}
		for source.IntN(4) == 0 {
			s.Bends = append(s.Bends, api.SlBend{Note: int(number()), Half: int(number())})
		}
		for name, call := range calls(s, int(number())) {
			zero, e := call()
			if want := Check(s); !slices.Contains(allowed, e) || e != api.OK && !zero || want != api.OK && e != want {
				t.Errorf("%s of %v: %v, %d", name, s, zero, e)
			}
		}
	}
}

// R3: the bends of an argument are not changed, nor those that lie behind them.
func TestArgumentsStay(t *testing.T) {
	all := []api.SlBend{{Note: 36, Half: 16}, {Note: 60, Half: 20}, {Note: 70, Half: 30}, {Note: 80, Half: 40}}
	want := slices.Clone(all)
	s := changed(bends(all[:2]...))
	for _, call := range calls(s, 50) {
		call()
	}
	Wider(principal(), s, 50)
	Table(s, 36, 139)
	if !slices.Equal(all, want) {
		t.Errorf("the bends are %v", all)
	}
}

// R3, R6: a table is new memory, and results are the same again.
func TestNewMemory(t *testing.T) {
	first := sure(Table(principal(), 36, 139))
	want := slices.Clone(first)
	second := sure(Table(principal(), 36, 139))
	for i := range first[:cap(first)] {
		first[:cap(first)][i] = api.Iv{Lo: -1, Hi: -1}
	}
	if !slices.Equal(second, want) || !slices.Equal(sure(Table(principal(), 36, 139)), want) {
		t.Error("Table returns memory that is not new")
	}
}
