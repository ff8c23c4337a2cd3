package words

import (
	"slices"
	"strings"
	"testing"

	"quintadena/api"
)

// P1.5
func TestQuote(t *testing.T) {
	for s, want := range map[string]string{"": `""`, "a": `"a"`, `say "a"`: `"say ""a"""`, `"`: `""""`, `""`: `""""""`, " ": `" "`} {
		if q, e := Quote(s); q != want || e != api.OK {
			t.Errorf("Quote(%s): %s, %d", s, q, e)
		}
		if got, e := Unquote(want); got != s || e != api.OK {
			t.Errorf("Unquote(%s): %s, %d", want, got, e)
		}
	}
	for _, s := range []string{"\n", "\x1f", "\x7f", "é", strings.Repeat("x", 201), strings.Repeat("\"", 201)} {
		if q, e := Quote(s); q != "" || e != api.ErrArg {
			t.Errorf("Quote(%.20q): %s, %d", s, q, e)
		}
	}
}

// P1.5
func TestUnquote(t *testing.T) {
	for _, q := range []string{"", "a", "ab", `"`, `"a`, `a"`, `"""`, `"""""`, `"a"b"`, `a"b"`, `"a"b`, `"a" `, ` "a"`, "\"\n\"", "\"\x7f\"", `"` + strings.Repeat("x", 201) + `"`, `"` + strings.Repeat(`"`, 402) + `"`} {
		if s, e := Unquote(q); s != "" || e != api.ErrForm {
			t.Errorf("Unquote(%.20q): %q, %d", q, s, e)
		}
	}
	for _, one := range []string{"x", " ", `"`, "~"} {
		long := strings.Repeat(one, 200)
		q, e := Quote(long)
		if s, e2 := Unquote(q); e != api.OK || e2 != api.OK || s != long {
			t.Errorf("Unquote of Quote of 200 %q: %d, %d", one, e, e2)
		}
	}
}

// P1.5 and P1.8: every short string has its quotation, and nothing else is one.
func TestQuotationsOfShortStrings(t *testing.T) {
	texts := map[string]string{}
	eachString("a \"", 4, func(s string) {
		q, e := Quote(s)
		if e != api.OK || len(q) != 2+len(s)+strings.Count(s, `"`) {
			t.Errorf("Quote(%s): %s, %d", s, q, e)
		}
		texts[q] = s
	})
	eachString("a \"", 6, func(q string) {
		want, isOne := texts[q]
		s, e := Unquote(q)
		if s != want || isOne && e != api.OK || !isOne && e != api.ErrForm {
			t.Errorf("Unquote(%s): %s, %d", q, s, e)
		}
		if again, _ := Quote(s); e == api.OK && again != q {
			t.Errorf("Quote of Unquote(%s): %s", q, again)
		}
	})
}

// P1.6
func TestSplit(t *testing.T) {
	for s, want := range map[string][]Field{
		"":                   nil,
		"a":                  {{S: "a"}},
		`""`:                 {{Quoted: true}},
		`"" ""`:              {{Quoted: true}, {Quoted: true}},
		`stop "Trumpet 8" 1`: {{S: "stop"}, {Quoted: true, S: "Trumpet 8"}, {S: "1"}},
		`" " a`:              {{Quoted: true, S: " "}, {S: "a"}},
		`"say ""a"" b" c`:    {{Quoted: true, S: `say "a" b`}, {S: "c"}},
		`"a"" ""b" """ """`:  {{Quoted: true, S: `a" "b`}, {Quoted: true, S: `" "`}},
		"!~ #,":              {{S: "!~"}, {S: "#,"}},
	} {
		l, e := Split(s)
		if !slices.Equal(l, want) || e != api.OK {
			t.Errorf("Split(%s): %v, %d", s, l, e)
		}
		if again, e := Join(l); again != s || e != api.OK {
			t.Errorf("Join of Split(%s): %s, %d", s, again, e)
		}
	}
	for _, s := range []string{" ", "  ", "a  b", " a", "a ", `"a" `, ` "a"`, `a"b`, `a"b c"`, `"a"b`, `"a"b c`, `"a"b"c"`, `"`, `"a`, `a "b`, "a\tb", "a\nb", "a\n", "\x00", "\x7f", "é", "\"\n\"", strings.Repeat("a", 201), `"` + strings.Repeat("a", 201) + `"`} {
		if l, e := Split(s); len(l) != 0 || e != api.ErrForm {
			t.Errorf("Split(%.20q): %v, %d", s, l, e)
		}
	}
}

// P1.6: which of two errors is returned.
func TestSplitTooLong(t *testing.T) {
	for _, x := range []struct {
		line string
		n    int
		e    api.Errno
	}{
		{strings.Repeat("a ", 63) + "a", 64, api.OK},
		{strings.Repeat("a ", 64) + "a", 0, api.ErrLong},
		{strings.Repeat("a ", 64) + `"`, 0, api.ErrForm},
		{strings.Repeat("a ", 65), 0, api.ErrForm},
		{strings.Repeat("a ", 2047) + "aa", 0, api.ErrLong},
		{strings.Repeat(`"" `, 64) + `""`, 0, api.ErrLong},
		{strings.Repeat(" ", 4096), 0, api.ErrForm},
		{strings.Repeat(" ", 4097), 0, api.ErrLong},
		{strings.Repeat(strings.Repeat("b", 200)+" ", 20) + strings.Repeat("c", 76), 21, api.OK},
		{strings.Repeat(strings.Repeat("b", 200)+" ", 20) + strings.Repeat("c", 77), 0, api.ErrLong},
	} {
		if l, e := Split(x.line); len(l) != x.n || e != x.e {
			t.Errorf("Split(%.20q of %d bytes): %d fields, %d", x.line, len(x.line), len(l), e)
		}
	}
}

// P1.6 and P1.8: the short lines are those that Join makes of fields, and no others.
func TestSplitOfEveryShortLine(t *testing.T) {
	written := map[string][]Field{"": nil}
	add := func(l ...Field) {
		if s, e := Join(l); e == api.OK {
			written[s] = slices.Clone(l)
		}
	}
	var one []Field
	eachString("a \"", 3, func(s string) { one = append(one, Field{Quoted: true, S: s}) })
	eachString("a", 6, func(s string) { one = append(one, Field{S: s}) })
	for _, a := range one {
		add(a)
		for _, b := range one {
			add(a, b)
			for _, c := range one {
				add(a, b, c)
			}
		}
	}
	eachString("a \"", 5, func(s string) {
		want, isOne := written[s]
		l, e := Split(s)
		if !slices.Equal(l, want) || isOne && e != api.OK || !isOne && e != api.ErrForm {
			t.Errorf("Split(%s): %v, %d", s, l, e)
		}
	})
	for s, want := range written {
		if l, e := Split(s); !slices.Equal(l, want) || e != api.OK {
			t.Errorf("Split of Join(%v): %v, %d", want, l, e)
		}
	}
}

// P1.6
func TestJoin(t *testing.T) {
	for _, x := range []struct {
		l    []Field
		want string
		e    api.Errno
	}{
		{nil, "", api.OK},
		{[]Field{}, "", api.OK},
		{[]Field{{Quoted: true}}, `""`, api.OK},
		{[]Field{{S: "a"}, {Quoted: true, S: `b "c"`}, {S: "#!~"}}, `a "b ""c""" #!~`, api.OK},
		{[]Field{{S: ""}}, "", api.ErrArg},
		{[]Field{{S: "a"}, {S: "a b"}}, "", api.ErrArg},
		{[]Field{{S: `a"`}}, "", api.ErrArg},
		{[]Field{{S: "\x7f"}}, "", api.ErrArg},
		{[]Field{{S: "a\n"}}, "", api.ErrArg},
		{[]Field{{S: strings.Repeat("a", 201)}}, "", api.ErrArg},
		{[]Field{{Quoted: true, S: "\n"}}, "", api.ErrArg},
		{[]Field{{Quoted: true, S: strings.Repeat("a", 201)}}, "", api.ErrArg},
		{slices.Repeat([]Field{{S: "a"}}, 64), strings.Repeat("a ", 63) + "a", api.OK},
		{slices.Repeat([]Field{{S: "a"}}, 65), "", api.ErrLong},
		{slices.Repeat([]Field{{S: ""}}, 65), "", api.ErrLong},
		{slices.Repeat([]Field{{S: strings.Repeat("a", 200)}}, 21), "", api.ErrLong},
		{append(slices.Repeat([]Field{{S: strings.Repeat("a", 200)}}, 30), Field{}), "", api.ErrArg},
		{append(slices.Repeat([]Field{{S: strings.Repeat("a", 200)}}, 20), Field{Quoted: true, S: strings.Repeat("a", 75)}), "", api.ErrLong},
	} {
		before := slices.Clone(x.l)
		s, e := Join(x.l)
		if s != x.want || e != x.e {
			t.Errorf("Join of %d fields: %.20q, %d", len(x.l), s, e)
		}
		if !slices.Equal(before, x.l) {
			t.Errorf("Join changed its fields to %v", x.l)
		}
	}
}

// P1.6 and P1.8
func TestLongestLine(t *testing.T) {
	for _, last := range []Field{{S: strings.Repeat("c", 76)}, {Quoted: true, S: strings.Repeat("c", 74)}, {Quoted: true, S: strings.Repeat(`"`, 37)}} {
		l := append(slices.Repeat([]Field{{S: strings.Repeat("b", 200)}}, 20), last)
		s, e := Join(l)
		if len(s) != 4096 || e != api.OK {
			t.Errorf("Join: %d bytes, %d", len(s), e)
		}
		if got, e := Split(s); !slices.Equal(got, l) || e != api.OK {
			t.Errorf("Split of Join: %d fields, %d", len(got), e)
		}
	}
}

// P1.7
func TestLines(t *testing.T) {
	for s, want := range map[string][]string{"": nil, "\n": {""}, "a\n": {"a"}, "a\n\nb\n": {"a", "", "b"}, "\na\n": {"", "a"}, "a\r\n": {"a\r"}, " \x00\xff \n": {" \x00\xff "}} {
		if l, e := Lines(s); !slices.Equal(l, want) || e != api.OK {
			t.Errorf("Lines(%q): %q, %d", s, l, e)
		}
	}
	for _, x := range []struct {
		s string
		n int
		e api.Errno
	}{
		{"a", 0, api.ErrForm},
		{"\na", 0, api.ErrForm},
		{"a\n ", 0, api.ErrForm},
		{strings.Repeat("\n", 5000), 5000, api.OK},
		{strings.Repeat("\n", 5001), 0, api.ErrLong},
		{strings.Repeat("\n", 5001) + "a", 0, api.ErrForm},
		{strings.Repeat("a", 1<<20-1) + "\n", 1, api.OK},
		{strings.Repeat("a", 1<<20), 0, api.ErrForm},
		{strings.Repeat("a", 1<<20) + "\n", 0, api.ErrLong},
		{strings.Repeat("a", 1<<20+1), 0, api.ErrLong},
	} {
		l, e := Lines(x.s)
		if len(l) != x.n || e != x.e {
			t.Errorf("Lines of %d bytes: %d, %d", len(x.s), len(l), e)
		}
		if e == api.OK && strings.Join(l, "\n")+"\n" != x.s {
			t.Errorf("Lines of %d bytes are not what it consists of", len(x.s))
		}
	}
}
