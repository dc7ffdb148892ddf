package digits

import (
	"fmt"
	"math/rand"
	"regexp"
	"slices"
	"strings"
	"testing"

	"crossbar/api"
)

// ones returns a string of n digits.
func ones(n int) string { return strings.Repeat("1", n) }

// decade returns the ten extensions of p by one digit.
func decade(p string) []string {
	var l []string
	for d := range 10 {
		l = append(l, fmt.Sprint(p, d))
	}
	return l
}

// words returns all strings over an alphabet of at most the given length, from the shortest to the longest.
func words(alphabet string, most int) []string {
	l := []string{""}
	for from, n := 0, 0; n < most; n++ {
		to := len(l)
		for _, w := range l[from:to] {
			for _, c := range alphabet {
				l = append(l, w+string(c))
			}
		}
		from = to
	}
	return l
}

// notDigits returns strings of one character that is no digit: the neighbours of the digits, signs, space, bytes that are no text, and the digits of other scripts.
func notDigits() []string {
	return []string{"/", ":", "x", "a", "A", "e", "+", "-", "*", "#", ".", " ", "\t", "\n", "\x00", "\x80", "\xb0", "\xff", "\uff11", "\u0661", "\u00b2", "\U0001d7d9", "\ufffd"}
}

// spoilt returns s with something that is no digit in place of, or between, its bytes.
func spoilt(s string) []string {
	var l []string
	for _, x := range notDigits() {
		for i := range len(s) + 1 {
			l = append(l, s[:i]+x+s[i:])
			if i < len(s) {
				l = append(l, s[:i]+x+s[i+1:])
			}
		}
	}
	return l
}

// numberForm, areaForm, dialledForm and startForm are a second way to the strings that are permitted, and to what a dialled string starts with.
var (
	numberForm  = regexp.MustCompile(`\A[0123456789]{1,15}\z`)
	areaForm    = regexp.MustCompile(`\A[0123456789]{0,15}\z`)
	dialledForm = regexp.MustCompile(`\A[0123456789]{1,20}\z`)
	startForm   = regexp.MustCompile(`\A(?:(00)|(0)|)(.*)\z`)
)

// wantNormal is a second way to the number that is dialled, through patterns; empty if there is none.
func wantNormal(dialled, country, area string) string {
	if !dialledForm.MatchString(dialled) || !numberForm.MatchString(country) || !areaForm.MatchString(area) {
		return ""
	}
	start := startForm.FindStringSubmatch(dialled)
	number := start[3]
	if start[2] != "" {
		number = country + number
	} else if start[1] == "" {
		number = country + area + number
	}
	if !numberForm.MatchString(number) {
		return ""
	}
	return number
}

func errorIf(failed bool) api.Errno {
	if failed {
		return api.ErrDigits
	}
	return api.OK
}

func checkNormalize(t *testing.T, dialled, country, area, want string) {
	t.Helper()
	if got, e := Normalize(dialled, country, area); got != want || e != errorIf(want == "") {
		t.Errorf("Normalize(%q, %q, %q) = %q, %d, want %q", dialled, country, area, got, e, want)
	}
}

func checkShorten(t *testing.T, number, country, area, want string) {
	t.Helper()
	if got, e := Shorten(number, country, area); got != want || e != errorIf(want == "") {
		t.Errorf("Shorten(%q, %q, %q) = %q, %d, want %q", number, country, area, got, e, want)
	}
}

// P6.1: the lengths of numbers.
func TestValidLength(t *testing.T) {
	for n := range 40 {
		if got, want := Valid(ones(n)), 1 <= n && n <= 15; got != want {
			t.Errorf("Valid of %d digits = %v", n, got)
		}
	}
	for _, n := range []int{256 + 1, 1 << 16, 1<<16 + 15, 1 << 20} {
		if Valid(ones(n)) {
			t.Errorf("%d digits are a number", n)
		}
	}
}

// P6.1: every byte alone and at the ends of a number, and characters that only look like digits.
func TestValidBytes(t *testing.T) {
	for c := range 256 {
		b, digit := string([]byte{byte(c)}), '0' <= c && c <= '9'
		for _, s := range []string{b, b + "1", "1" + b, "1" + b + "1", "1234567" + b + "8901234"} {
			if Valid(s) != digit {
				t.Errorf("Valid(%q) = %v", s, !digit)
			}
		}
	}
	for _, s := range spoilt("0123456789") {
		if Valid(s) {
			t.Errorf("%q is a number", s)
		}
	}
	if !Valid("0123456789") || !Valid("000000000000000") || !Valid("0") {
		t.Error("zeros are not permitted in numbers")
	}
}

// P6.2: the examples, and each of the three forms with nothing behind its beginning.
func TestNormalize(t *testing.T) {
	for _, c := range []struct{ dialled, country, area, want string }{
		{"1234", "49", "30", "49301234"},
		{"0891234", "49", "30", "49891234"},
		{"00331", "49", "30", "331"},
		{"201", "49", "30", "4930201"},
		{"040301", "49", "30", "4940301"},
		{"00431", "49", "30", "431"},
		{"1", "49", "", "491"},
		{"0", "49", "30", "49"},
		{"00", "49", "30", ""},
		{"000", "49", "30", "0"},
		{"0000", "49", "30", "00"},
		{"0010", "49", "30", "10"},
		{"010", "49", "30", "4910"},
		{"100", "49", "30", "4930100"},
		{"5", "0", "0", "005"},
		{"05", "0", "0", "05"},
	} {
		checkNormalize(t, c.dialled, c.country, c.area, c.want)
	}
}

// P6.2: all short strings against a second way, those with a character that is no digit among them.
func TestNormalizeAllShort(t *testing.T) {
	for _, dialled := range words("017x", 5) {
		for _, country := range []string{"1", "0", "49", "00", "", "x", "4x"} {
			for _, area := range []string{"", "0", "3", "30", "x", "3x"} {
				checkNormalize(t, dialled, country, area, wantNormal(dialled, country, area))
			}
		}
	}
}

// P6.2: lengths of the dialled string and of the result, at their borders in all three forms.
func TestNormalizeLength(t *testing.T) {
	for n := range 30 {
		for _, start := range []string{"", "0", "00"} {
			for _, place := range [][2]string{{"49", "30"}, {"49", ""}, {"123456789012345", ""}, {"1", "12345678901234"}, {"1", "123456789012345"}, {"12345678901234", "1"}} {
				dialled := start + ones(n)
				checkNormalize(t, dialled, place[0], place[1], wantNormal(dialled, place[0], place[1]))
			}
		}
	}
	for _, c := range []struct{ dialled, country, area, want string }{
		{ones(11), "49", "30", "4930" + ones(11)},
		{ones(12), "49", "30", ""},
		{"0" + ones(13), "49", "30", "49" + ones(13)},
		{"0" + ones(14), "49", "30", ""},
		{"00" + ones(15), "49", "30", ones(15)},
		{"00" + ones(16), "49", "30", ""},
		{"00" + ones(18), "49", "30", ""},
		{"00" + ones(19), "49", "30", ""},
		{"0", ones(15), "", ones(15)},
		{"0", ones(15), ones(15), ones(15)},
		{"1", ones(15), "", ""},
		{"001", ones(15), ones(15), "1"},
	} {
		checkNormalize(t, c.dialled, c.country, c.area, c.want)
	}
}

// P6.2: country and area codes are checked even where the result does not contain them.
func TestNormalizeErrors(t *testing.T) {
	for _, dialled := range []string{"1", "01", "001"} {
		for _, bad := range append(spoilt("49"), ones(16), ones(1<<16)) {
			checkNormalize(t, dialled, bad, "", "")
			checkNormalize(t, dialled, bad, "30", "")
			checkNormalize(t, dialled, "49", bad, "")
		}
		checkNormalize(t, dialled, "", "", "")
		checkNormalize(t, dialled, "", "4930", "")
	}
	for _, s := range []string{"1234", "01234", "001234"} {
		for _, bad := range spoilt(s) {
			checkNormalize(t, bad, "49", "30", "")
		}
	}
	checkNormalize(t, "", "49", "30", "")
	checkNormalize(t, ones(1<<16), "49", "30", "")
}

// P6.3: the examples, and the borders of the three forms.
func TestShorten(t *testing.T) {
	for _, c := range []struct{ number, country, area, want string }{
		{"49301234", "49", "30", "1234"},
		{"49300123", "49", "30", "0300123"},
		{"331", "49", "30", "00331"},
		{"4930", "49", "30", "030"},        // nothing behind the area
		{"49", "49", "30", "0"},            // nothing behind the country
		{"4", "49", "30", "004"},           // only a part of the country
		{"4901", "49", "30", "004901"},     // a zero behind the country
		{"4903", "49", "03", "004903"},     // and nothing behind the area
		{"49031", "49", "03", "1"},         // a zero in the area
		{"490301", "49", "03", "00490301"}, // and another behind it
		{"491", "49", "", "1"},
		{"4901", "49", "", "004901"},
		{"49", "49", "", "0"},
		{"0", "0", "", "0"},
		{"00", "0", "", "0000"},
		{"005", "0", "0", "5"},
		{"0", "49", "30", "000"},
		{"4940301", "49", "30", "040301"},
		{"301234", "49", "30", "00301234"}, // the area without the country
	} {
		checkShorten(t, c.number, c.country, c.area, c.want)
	}
}

// P6.3 and P6.6: of all strings that may be dialled, the shortest that reaches the number.
func TestShortenAllShort(t *testing.T) {
	dialled := words("014", 6)
	for _, country := range words("014", 2)[1:] {
		for _, area := range words("014", 2) {
			shortest := map[string]string{}
			for _, s := range dialled {
				if n := wantNormal(s, country, area); n != "" && shortest[n] == "" {
					shortest[n] = s
				}
			}
			for _, number := range words("014", 4)[1:] {
				checkShorten(t, number, country, area, shortest[number])
				checkNormalize(t, shortest[number], country, area, number)
			}
		}
	}
}

// P6.3: numbers, countries and areas of every length.
func TestShortenLength(t *testing.T) {
	for n := range 20 {
		number := ones(n)
		for i := range 20 {
			for j := range 20 {
				want := ""
				switch {
				case n < 1 || n > 15 || i < 1 || i > 15 || j > 15:
				case n > i+j:
					want = ones(n - i - j)
				case n >= i:
					want = "0" + ones(n-i)
				default:
					want = "00" + number
				}
				checkShorten(t, number, ones(i), ones(j), want)
			}
		}
	}
}

// P6.3: arguments that are no numbers, also where a form does not need them.
func TestShortenErrors(t *testing.T) {
	for _, number := range []string{"49301234", "49891234", "331"} {
		for _, bad := range append(spoilt("49"), ones(16), ones(1<<16)) {
			checkShorten(t, number, bad, "", "")
			checkShorten(t, number, bad, "30", "")
			checkShorten(t, number, "49", bad, "")
			checkShorten(t, bad+number, bad, "", "")
			checkShorten(t, "49"+bad+number, "49", bad, "")
		}
		checkShorten(t, number, "", "", "")
		checkShorten(t, number, "", "4930", "")
		for _, bad := range spoilt(number) {
			checkShorten(t, bad, "49", "30", "")
		}
	}
	checkShorten(t, "", "49", "30", "")
	checkShorten(t, "", "", "", "")
	checkShorten(t, "4930"+ones(12), "49", "30", "")
	checkShorten(t, ones(1<<16), "1", "", "")
}

// P6.4: any strings, numbers or not.
func TestCommon(t *testing.T) {
	for _, c := range []struct {
		a, b string
		want int
	}{
		{"", "", 0},
		{"", "1", 0},
		{"1", "2", 0},
		{"12", "13", 1},
		{"12", "123", 2},
		{"123", "123", 3},
		{"0123", "1123", 0},
		{"12x4", "12y4", 2},
		{"\xff\xfe", "\xff\xfd", 1},
		{"\u00e9", "\u00e8", 1}, // bytes, not characters
		{"\x00\x00", "\x00", 1},
		{ones(1 << 16), ones(1<<16) + "2", 1 << 16},
		{ones(1<<16) + "3", ones(1<<16) + "2", 1 << 16},
	} {
		if got, back := Common(c.a, c.b), Common(c.b, c.a); got != c.want || back != c.want {
			t.Errorf("Common(%.9q, %.9q) = %d, and %d the other way round, want %d", c.a, c.b, got, back, c.want)
		}
	}
}

// P6.4: against the prefixes themselves.
func TestCommonAllShort(t *testing.T) {
	all := words("1x\xff", 4)
	for _, a := range all {
		for _, b := range all {
			want := 0
			for n := range min(len(a), len(b)) + 1 {
				if strings.HasPrefix(b, a[:n]) {
					want = n
				}
			}
			if got := Common(a, b); got != want {
				t.Errorf("Common(%q, %q) = %d, want %d", a, b, got, want)
			}
		}
	}
}

// P6.4: any strings and any number of prefixes, at each place of the list.
func TestMatches(t *testing.T) {
	for _, c := range []struct {
		prefixes []string
		number   string
		want     bool
	}{
		{nil, "", false},
		{[]string{}, "1", false},
		{[]string{""}, "", true},
		{[]string{""}, "\xff", true},
		{[]string{"2", ""}, "1", true},
		{[]string{"1"}, "", false},
		{[]string{"1"}, "1", true},
		{[]string{"1"}, "21", false},
		{[]string{"12"}, "1", false},
		{[]string{"12", "13", "2"}, "123", true},
		{[]string{"13", "12", "2"}, "123", true},
		{[]string{"13", "2", "12"}, "123", true},
		{[]string{"13", "2", "14"}, "123", false},
		{[]string{"x", "\xff"}, "\xff\xfe", true},
		{[]string{ones(1 << 16)}, ones(1<<16) + "2", true},
		{slices.Repeat([]string{"2"}, 5000), "1", false},
		{append(slices.Repeat([]string{"2"}, 5000), "1"), "1", true},
	} {
		if got := Matches(c.prefixes, c.number); got != c.want {
			t.Errorf("Matches(%d prefixes, %.9q) = %v", len(c.prefixes), c.number, got)
		}
	}
	for _, p := range words("1x\xff", 4) {
		for _, s := range words("1x\xff", 4) {
			if want := Common(p, s) == len(p); Matches([]string{"?", p}, s) != want {
				t.Errorf("Matches(%q, %q) = %v", p, s, !want)
			}
		}
	}
}

// power returns 10^n.
func power(n int) int {
	p := 1
	for range n {
		p *= 10
	}
	return p
}

// span is a range of strings of 15 digits, read as integers: from the first one to the one behind the last.
type span struct{ from, to int }

// spans returns the strings that prefixes match as spans that do not touch, in order.
func spans(prefixes []string) []span {
	var all []span
	for _, p := range prefixes {
		from := 0
		for _, d := range p {
			from = from*10 + int(d-'0')
		}
		size := power(15 - len(p))
		all = append(all, span{from * size, from*size + size})
	}
	slices.SortFunc(all, func(a, b span) int { return a.from - b.from })
	var l []span
	for _, s := range all {
		if n := len(l); n > 0 && s.from <= l[n-1].to {
			l[n-1].to = max(l[n-1].to, s.to)
		} else {
			l = append(l, s)
		}
	}
	return l
}

// wantMinimal is a second way to the minimal set: each span is cut, from its start, into the greatest pieces that a prefix matches.
func wantMinimal(prefixes []string) []string {
	var l []string
	for _, s := range spans(prefixes) {
		for s.from < s.to {
			n := 0
			for s.from%power(15-n) != 0 || s.from+power(15-n) > s.to {
				n++
			}
			l = append(l, fmt.Sprintf("%015d", s.from)[:n])
			s.from += power(15 - n)
		}
	}
	return l
}

func checkMinimal(t *testing.T, prefixes, want []string) {
	t.Helper()
	if got, e := Minimal(prefixes); e != api.OK || !slices.Equal(got, want) {
		t.Errorf("Minimal(%q) = %q, %d, want %q", prefixes, got, e, want)
	}
}

func checkMinimalError(t *testing.T, prefixes []string, want api.Errno) {
	t.Helper()
	if got, e := Minimal(prefixes); e != want || len(got) != 0 {
		t.Errorf("Minimal of %d prefixes = %q, %d, want error %d", len(prefixes), got, e, want)
	}
}

// ladder returns prefixes that only together match everything: nine of each length up to n, and the last one.
func ladder(n int) []string {
	var l []string
	for i := range n {
		l = append(l, decade(strings.Repeat("4", i))...)
		l = slices.DeleteFunc(l, func(p string) bool { return p == strings.Repeat("4", i+1) })
	}
	return append(l, strings.Repeat("4", n))
}

// P6.5: the examples, and sets where the steps do not apply or only one does.
func TestMinimal(t *testing.T) {
	for _, c := range []struct{ prefixes, want []string }{
		{nil, nil},
		{[]string{}, nil},
		{[]string{""}, []string{""}},
		{[]string{"", "", "5"}, []string{""}},
		{[]string{"12", "123", "1"}, []string{"1"}},
		{append(decade("5"), "7"), []string{"5", "7"}},
		{[]string{"2", "10", "1", "2"}, []string{"1", "2"}},
		{[]string{"9", "10", "011", "01", "0"}, []string{"0", "10", "9"}},
		{[]string{"1234", "12", "12345"}, []string{"12"}},
		{[]string{"12", "21"}, []string{"12", "21"}},
		{decade(""), []string{""}},
		{decade("")[1:], decade("")[1:]},
		{decade("7")[:9], decade("7")[:9]},
		{append(decade("7")[:9], "790"), append(decade("7")[:9], "790")},
		{append(decade("7"), "7"), []string{"7"}},
		{slices.Concat(decade("7"), decade("71"), decade("719")), []string{"7"}},
		{decade(ones(13)), []string{ones(13)}},
		{[]string{ones(14), ones(14)}, []string{ones(14)}},
		{decade(ones(13))[:9], decade(ones(13))[:9]},
	} {
		checkMinimal(t, c.prefixes, c.want)
	}
}

// P6.5: replacing ten prefixes may complete ten others, up to the empty prefix, in any order of the list.
func TestMinimalLadder(t *testing.T) {
	r := rand.New(rand.NewSource(1))
	for n := range 15 {
		l := ladder(n)
		for range 20 {
			r.Shuffle(len(l), func(i, j int) { l[i], l[j] = l[j], l[i] })
			checkMinimal(t, l, []string{""})
		}
		for i := range l {
			less := slices.Delete(slices.Clone(l), i, i+1)
			checkMinimal(t, less, wantMinimal(less))
		}
	}
	var thousand []string
	for i := range 1000 {
		thousand = append(thousand, fmt.Sprintf("%03d", i))
	}
	checkMinimal(t, thousand, []string{""})
	checkMinimal(t, thousand[1:], wantMinimal(thousand[1:]))
	checkMinimal(t, thousand[120:931], []string{"12", "13", "14", "15", "16", "17", "18", "19", "2", "3", "4", "5", "6", "7", "8", "90", "91", "92", "930"})
}

// P6.5: every set of one-digit prefixes and the empty one.
func TestMinimalAllOneDigit(t *testing.T) {
	all := append(decade(""), "")
	for bits := range 1 << len(all) {
		var l []string
		for i, p := range all {
			if bits>>i&1 == 1 {
				l = append(l, p)
			}
		}
		checkMinimal(t, l, wantMinimal(l))
	}
}

// split returns random prefixes that match the same strings as p: p itself, or its extensions, split in turn.
func split(r *rand.Rand, p string, depth int) []string {
	if depth == 0 || len(p) == 14 || r.Intn(3) == 0 {
		return []string{p}
	}
	var l []string
	for _, x := range decade(p) {
		if r.Intn(6) == 0 {
			l = append(l, split(r, x, depth-1)...)
		} else {
			l = append(l, x)
		}
	}
	return l
}

// randomPrefixes returns a set with prefixes that cover each other and such that are complete but for some.
func randomPrefixes(r *rand.Rand) []string {
	var l []string
	for range r.Intn(5) {
		l = append(l, split(r, ones(r.Intn(15)), 4)...)
	}
	for range r.Intn(3) {
		if len(l) > 0 {
			i := r.Intn(len(l))
			l = slices.Delete(l, i, i+1)
		}
	}
	for range r.Intn(20) {
		p := ""
		for range r.Intn(4) {
			p += fmt.Sprint(r.Intn(10))
		}
		l = append(l, p+"1")
	}
	r.Shuffle(len(l), func(i, j int) { l[i], l[j] = l[j], l[i] })
	return l
}

// P6.5 and P6.6: random sets against a second way; the result matches what the set matches, is its own minimal form, and no other set for the same strings has another.
func TestMinimalRandom(t *testing.T) {
	r := rand.New(rand.NewSource(2))
	for range 3000 {
		l := randomPrefixes(r)
		want := wantMinimal(l)
		checkMinimal(t, l, want)
		checkMinimal(t, want, want)
		got, _ := Minimal(l)
		for range 20 {
			s := fmt.Sprintf("%015d", r.Intn(power(15)))
			s = ones(r.Intn(16)) + s
			if s = s[:15]; Matches(got, s) != Matches(l, s) {
				t.Errorf("Minimal(%q) = %q, which differs for %s", l, got, s)
			}
		}
		var other []string
		for _, p := range want {
			other = append(other, split(r, p, 2)...)
		}
		if other = append(other, want[:r.Intn(len(want)+1)]...); len(other) <= 1024 {
			r.Shuffle(len(other), func(i, j int) { other[i], other[j] = other[j], other[i] })
			checkMinimal(t, other, want)
		}
	}
}

// P6.5: the number of prefixes, which counts before what they are.
func TestMinimalLimit(t *testing.T) {
	var l []string
	for i := range 1025 {
		l = append(l, fmt.Sprintf("%014d", 2*i))
	}
	checkMinimal(t, l[:1023], l[:1023])
	checkMinimal(t, l[:1024], l[:1024])
	checkMinimal(t, slices.Repeat([]string{"5"}, 1024), []string{"5"})
	checkMinimalError(t, l, api.ErrLimit)
	checkMinimalError(t, slices.Repeat([]string{"5"}, 1025), api.ErrLimit)
	checkMinimalError(t, make([]string, 1<<16), api.ErrLimit)
	checkMinimalError(t, slices.Repeat([]string{"x"}, 1025), api.ErrLimit)
	checkMinimalError(t, slices.Repeat([]string{"x"}, 1024), api.ErrDigits)
	checkMinimalError(t, append(slices.Clone(l[:1023]), "x"), api.ErrDigits)
}

// P6.5: prefixes that are none, at each place of the list and where others cover them.
func TestMinimalErrors(t *testing.T) {
	for _, bad := range append(spoilt("12"), ones(15), ones(16), ones(1<<16), "1"+ones(14)) {
		checkMinimalError(t, []string{bad}, api.ErrDigits)
		checkMinimalError(t, []string{bad, "", "1"}, api.ErrDigits)
		checkMinimalError(t, []string{"", bad, "1"}, api.ErrDigits)
		checkMinimalError(t, []string{"", "1", bad}, api.ErrDigits)
	}
	for n := range 15 {
		checkMinimal(t, []string{ones(n)}, []string{ones(n)})
	}
	checkMinimalError(t, decade(ones(14)), api.ErrDigits)
}

// R2: the list that is passed stays as it is, to the end of its memory, and the result is memory of its own.
func TestMinimalMemory(t *testing.T) {
	for _, prefixes := range [][]string{nil, {"1"}, {"1", "2"}, {"2", "1", "12", "1"}, append(decade("3"), "1")} {
		whole := slices.Concat(prefixes, []string{"left", "alone"})
		before := slices.Clone(whole)
		given := whole[:len(prefixes)]
		got, _ := Minimal(given)
		want := slices.Clone(got)
		got = got[:cap(got)]
		for i := range got {
			got[i] = "changed"
		}
		checkMinimal(t, given, want)
		Matches(given, "123")
		if !slices.Equal(whole, before) {
			t.Errorf("the list %q became %q", before, whole)
		}
	}
}
