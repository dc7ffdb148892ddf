package dialplan

import (
	"fmt"
	"math"
	"math/rand"
	"slices"
	"strings"
	"testing"

	"crossbar/api"
)

// examplePlan returns the rules of the chapter's example.
func examplePlan() []api.DialRule {
	return []api.DialRule{
		{Prefix: "1", Min: 3, Max: 3, Kind: api.EmergencyNumber},
		{Prefix: "2", Min: 5, Max: 7, Kind: api.CallNumber},
		{Prefix: "29", Min: 2, Max: 2, Kind: api.Barred},
	}
}

// fullPlan returns 64 rules whose prefixes of 15 digits have little in common.
func fullPlan() []api.DialRule {
	var l []api.DialRule
	for i := range 64 {
		l = append(l, api.DialRule{Prefix: fmt.Sprintf("%02d4444444444444", i)[:15], Min: 15 + i%3, Max: 18 + i%3, Kind: api.CallNumber})
	}
	return l
}

// ones returns a string of n digits.
func ones(n int) string { return strings.Repeat("1", n) }

// words returns all strings over an alphabet of at most the given length, from the shortest to the longest.
func words(alphabet string, most int) []string {
	l := []string{""}
	for from, n := 0, 0; n < most; n++ {
		to := len(l)
		for _, w := range l[from:to] {
			for _, c := range alphabet {
				l = append(l, w+string(c))
			}
		}
		from = to
	}
	return l
}

// spoilt returns s with something that is no digit in place of, or between, its bytes: the neighbours of the digits, signs, space, bytes that are no text, and the digits of other scripts.
func spoilt(s string) []string {
	var l []string
	for _, x := range []string{"/", ":", "x", "a", "A", "e", "+", "-", "*", "#", ".", " ", "\t", "\n", "\x00", "\x80", "\xb0", "\xff", "\uff11", "\u0661", "\u00b2", "\U0001d7d9", "\ufffd"} {
		for i := range len(s) + 1 {
			l = append(l, s[:i]+x+s[i:])
			if i < len(s) {
				l = append(l, s[:i]+x+s[i+1:])
			}
		}
	}
	return l
}

// brief returns a text for some rules that is short even for many of them.
func brief(rules []api.DialRule) string {
	return fmt.Sprintf("%d rules: %v", len(rules), rules[:min(len(rules), 5)])
}

func checkCheck(t *testing.T, rules []api.DialRule, want api.Errno) {
	t.Helper()
	if e := Check(rules); e != want {
		t.Errorf("Check(%.200s) = %d, want %d", brief(rules), e, want)
	}
}

// wantRule is a second way to the applicable rule: the prefixes of the digits are looked for among the rules, from the longest on.
func wantRule(rules []api.DialRule, s string) int {
	for n := len(s); n > 0; n-- {
		for i, r := range rules {
			if r.Prefix == s[:n] {
				return i
			}
		}
	}
	return -1
}

// wantOverlap and wantEnBloc are a second way to the states.
func wantOverlap(rules []api.DialRule, s string) api.Analysis {
	a := api.Analysis{State: api.Invalid, Rule: wantRule(rules, s)}
	accepted := a.Rule >= 0 && rules[a.Rule].Kind != api.Barred
	if accepted && len(s) < rules[a.Rule].Max || a.Rule < 0 && s == "" {
		a.State = api.NeedMore
	}
	if accepted && len(s) == rules[a.Rule].Max {
		a.State = api.Complete
	}
	for _, r := range rules {
		if len(r.Prefix) > len(s) && strings.HasPrefix(r.Prefix, s) {
			a.State = api.NeedMore
		}
	}
	return a
}

func wantEnBloc(rules []api.DialRule, s string) api.Analysis {
	a := api.Analysis{State: api.Complete, Rule: wantRule(rules, s)}
	if a.Rule < 0 || rules[a.Rule].Kind == api.Barred || len(s) < rules[a.Rule].Min || len(s) > rules[a.Rule].Max {
		a.State = api.Invalid
	}
	return a
}

func wantFeed(rules []api.DialRule, s string) (int, api.Analysis) {
	for k := range len(s) {
		if a := wantOverlap(rules, s[:k]); a.State != api.NeedMore {
			return k, a
		}
	}
	return len(s), wantOverlap(rules, s)
}

// checkDigits checks all functions for digits that are admitted.
func checkDigits(t *testing.T, rules []api.DialRule, s string) {
	t.Helper()
	if a, e := Analyze(rules, s, false); a != wantOverlap(rules, s) || e != api.OK {
		t.Errorf("overlap analysis of %q by %v = %v, %d, want %v", s, rules, a, e, wantOverlap(rules, s))
	}
	if a, e := Analyze(rules, s, true); a != wantEnBloc(rules, s) || e != api.OK {
		t.Errorf("en-bloc analysis of %q by %v = %v, %d, want %v", s, rules, a, e, wantEnBloc(rules, s))
	}
	n, want := wantFeed(rules, s)
	if used, a, e := Feed(rules, s); used != n || a != want || e != api.OK {
		t.Errorf("Feed of %q by %v = %d, %v, %d, want %d, %v", s, rules, used, a, e, n, want)
	}
}

// checkError checks that all functions but Check report an error, and nothing else.
func checkError(t *testing.T, rules []api.DialRule, s string, want api.Errno) {
	t.Helper()
	for _, final := range []bool{false, true} {
		if a, e := Analyze(rules, s, final); a != (api.Analysis{}) || e != want {
			t.Errorf("Analyze(%.200s, %.30q, %v) = %v, %d, want error %d", brief(rules), s, final, a, e, want)
		}
	}
	if used, a, e := Feed(rules, s); used != 0 || a != (api.Analysis{}) || e != want {
		t.Errorf("Feed(%.200s, %.30q) = %d, %v, %d, want error %d", brief(rules), s, used, a, e, want)
	}
}

// randomRule returns an admitted rule with a short prefix of few digits, so that rules have much in common.
func randomRule(r *rand.Rand) api.DialRule {
	x := api.DialRule{Kind: 1 + r.Intn(4)}
	for range 1 + r.Intn(4) {
		x.Prefix += string("012"[r.Intn(3)])
	}
	x.Min = len(x.Prefix) + r.Intn(3)
	x.Max = x.Min + r.Intn(3)
	return x
}

// randomPlan returns admitted rules.
func randomPlan(r *rand.Rand, most int) []api.DialRule {
	var l []api.DialRule
	for range r.Intn(most + 1) {
		x := randomRule(r)
		if !slices.ContainsFunc(l, func(y api.DialRule) bool { return y.Prefix == x.Prefix }) {
			l = append(l, x)
		}
	}
	return l
}

// P8.2 and P8.3: the example of the chapter.
func TestExample(t *testing.T) {
	for _, c := range []struct {
		digits      string
		final       bool
		state, rule int
	}{
		{"1", false, api.NeedMore, 0},
		{"11", false, api.NeedMore, 0},
		{"112", false, api.Complete, 0},
		{"2", false, api.NeedMore, 1},
		{"29", false, api.Invalid, 2},
		{"212345", false, api.NeedMore, 1},
		{"3", false, api.Invalid, -1},
		{"212345", true, api.Complete, 1},
	} {
		if a, e := Analyze(examplePlan(), c.digits, c.final); a != (api.Analysis{State: c.state, Rule: c.rule}) || e != api.OK {
			t.Errorf("Analyze(%q, %v) = %v, %d", c.digits, c.final, a, e)
		}
	}
	if used, a, e := Feed(examplePlan(), "1125"); used != 3 || a != (api.Analysis{State: api.Complete, Rule: 0}) || e != api.OK {
		t.Error(used, a, e)
	}
}

// P8.1: the number of rules, which is looked at before the rules.
func TestCheckLimit(t *testing.T) {
	checkCheck(t, nil, api.OK)
	checkCheck(t, []api.DialRule{}, api.OK)
	for n := range 65 {
		checkCheck(t, fullPlan()[:n], api.OK)
	}
	more := append(fullPlan(), api.DialRule{Prefix: "9", Min: 1, Max: 20, Kind: api.CallNumber})
	checkCheck(t, more, api.ErrLimit)
	checkCheck(t, more[1:], api.OK)
	for _, n := range []int{1, 2, 64} {
		checkCheck(t, make([]api.DialRule, n), api.ErrPlan)
	}
	for _, n := range []int{65, 66, 128, 256, 1 << 16} {
		checkCheck(t, make([]api.DialRule, n), api.ErrLimit)
	}
}

// P8.1: the lengths and the bytes of prefixes.
func TestCheckPrefix(t *testing.T) {
	rule := func(prefix string, most int) []api.DialRule {
		return []api.DialRule{{Prefix: prefix, Min: most, Max: most, Kind: api.CallNumber}}
	}
	for n := range 25 {
		want := api.ErrPlan
		if 1 <= n && n <= 15 {
			want = api.OK
		}
		checkCheck(t, rule(ones(n), 20), want)
	}
	checkCheck(t, rule(ones(1<<16), 1<<16), api.ErrPlan)
	checkCheck(t, rule("0123456789", 20), api.OK)
	for _, s := range append(spoilt("0"), spoilt("0123456789")...) {
		checkCheck(t, rule(s, 20), api.ErrPlan)
	}
}

// P8.1: the four kinds, and integers near them, far from them, and equal to them in their low bits.
func TestCheckKind(t *testing.T) {
	kinds := []int{math.MinInt, math.MaxInt, 1 << 32, 1<<32 + 1, 1<<8 + 2}
	for kind := -10; kind < 300; kind++ {
		kinds = append(kinds, kind)
	}
	for _, kind := range kinds {
		want := api.ErrPlan
		if 1 <= kind && kind <= 4 {
			want = api.OK
		}
		checkCheck(t, []api.DialRule{{Prefix: "1", Min: 1, Max: 1, Kind: kind}}, want)
	}
}

// P8.1: the numbers of digits against each other, the prefix and the limit, with integers far away from them.
func TestCheckRange(t *testing.T) {
	ends := []int{math.MinInt, math.MinInt + 1, -1 << 32, 1 << 32, 1<<32 + 15, math.MaxInt - 1, math.MaxInt}
	for n := -2; n < 25; n++ {
		ends = append(ends, n)
	}
	for _, length := range []int{1, 2, 7, 14, 15} {
		for _, from := range ends {
			for _, to := range ends {
				want := api.OK
				if from < length || to < from || to > 20 {
					want = api.ErrPlan
				}
				checkCheck(t, []api.DialRule{{Prefix: ones(length), Min: from, Max: to, Kind: api.CallNumber}}, want)
			}
		}
	}
}

// P8.1: one bad rule at any place, also one that only repeats a prefix.
func TestCheckEveryRule(t *testing.T) {
	for i := range 64 {
		for _, bad := range []func(r *api.DialRule){
			func(r *api.DialRule) { r.Prefix = "" },
			func(r *api.DialRule) { r.Prefix += "4" },
			func(r *api.DialRule) { r.Prefix = r.Prefix[:14] + "x" },
			func(r *api.DialRule) { r.Kind = 0 },
			func(r *api.DialRule) { r.Kind = 5 },
			func(r *api.DialRule) { r.Min = 14 },
			func(r *api.DialRule) { r.Min = r.Max + 1 },
			func(r *api.DialRule) { r.Max = r.Min - 1 },
			func(r *api.DialRule) { r.Max = 21 },
		} {
			rules := fullPlan()
			bad(&rules[i])
			checkCheck(t, rules, api.ErrPlan)
		}
		for k := range i {
			rules := fullPlan()
			rules[i] = api.DialRule{Prefix: rules[k].Prefix, Min: 20, Max: 20, Kind: api.Barred}
			checkCheck(t, rules, api.ErrPlan)
		}
	}
}

// P8.1: prefixes of each other, and rules that are equal but for the prefix.
func TestCheckNested(t *testing.T) {
	var rules []api.DialRule
	for n := range 15 {
		rules = append(rules, api.DialRule{Prefix: ones(n + 1), Min: 15, Max: 15, Kind: api.CallNumber}, api.DialRule{Prefix: strings.Repeat("0", n+1), Min: 15, Max: 15, Kind: api.CallNumber})
	}
	checkCheck(t, rules, api.OK)
	checkCheck(t, append(rules, api.DialRule{Prefix: "1", Min: 1, Max: 1, Kind: api.Barred}), api.ErrPlan)
}

// P8.2 and P8.3: an invalid plan, whatever was dialled.
func TestPlanErrors(t *testing.T) {
	good := examplePlan()[0]
	for _, s := range []string{"", "1", "112", "1125", "x", "112x", ones(100)} {
		checkError(t, []api.DialRule{good, good}, s, api.ErrPlan)
		checkError(t, make([]api.DialRule, 1), s, api.ErrPlan)
		checkError(t, append(examplePlan(), api.DialRule{Prefix: "5", Min: 1, Max: 21, Kind: api.CallNumber}), s, api.ErrPlan)
		checkError(t, append(fullPlan(), good), s, api.ErrLimit)
		checkError(t, make([]api.DialRule, 65), s, api.ErrLimit)
	}
}

// P8.2 and P8.3: bytes that are no digits, also behind those that are used, and where no rule applies.
func TestDigitErrors(t *testing.T) {
	for _, rules := range [][]api.DialRule{nil, examplePlan(), fullPlan()} {
		for _, s := range []string{"", "1", "112", "1125", "29", "3", "2123456789", "014444444444444"} {
			for _, bad := range append(spoilt(s), s+strings.Repeat("3", 1000)+"x", s+strings.Repeat("3", 1000)+":3") {
				checkError(t, rules, bad, api.ErrDigits)
			}
		}
	}
	for c := range 256 {
		if c < '0' || c > '9' {
			checkError(t, examplePlan(), string([]byte{byte(c)}), api.ErrDigits)
			checkError(t, examplePlan(), string([]byte{'1', byte(c), '2'}), api.ErrDigits)
		}
	}
}

// P8.2: each line of both lists, with the lines in front of it that would decide otherwise.
func TestAnalyze(t *testing.T) {
	rules := []api.DialRule{
		{Prefix: "1", Min: 2, Max: 4, Kind: api.CallNumber},
		{Prefix: "12345", Min: 5, Max: 6, Kind: api.FeatureCode},
		{Prefix: "5", Min: 1, Max: 3, Kind: api.Barred},
		{Prefix: "555", Min: 4, Max: 4, Kind: api.EmergencyNumber},
		{Prefix: "77", Min: 2, Max: 20, Kind: api.CallNumber},
	}
	const more, complete, invalid = api.NeedMore, api.Complete, api.Invalid
	for _, c := range []struct {
		digits        string
		rule          int
		overlap, bloc int
	}{
		{"", -1, more, invalid},
		{"0", -1, invalid, invalid},
		{"7", -1, more, invalid}, // extensible, though no rule applies
		{"70", -1, invalid, invalid},
		{"1", 0, more, invalid},
		{"12", 0, more, complete},
		{"1234", 0, more, complete}, // extensible, though Max is reached
		{"1235", 0, complete, complete},
		{"12344", 0, invalid, invalid},
		{"12345", 1, more, complete},
		{"123450", 1, complete, complete},
		{"1234500", 1, invalid, invalid},
		{"5", 2, more, invalid}, // extensible, though barred
		{"50", 2, invalid, invalid},
		{"51234", 2, invalid, invalid},
		{"555", 3, more, invalid},
		{"5550", 3, complete, complete},
		{"55500", 3, invalid, invalid},
		{"77", 4, more, complete},
		{"77" + ones(17), 4, more, complete},
		{"77" + ones(18), 4, complete, complete},
		{"77" + ones(19), 4, invalid, invalid},
		{"77" + ones(1<<16), 4, invalid, invalid},
	} {
		if a, e := Analyze(rules, c.digits, false); a != (api.Analysis{State: c.overlap, Rule: c.rule}) || e != api.OK {
			t.Errorf("overlap analysis of %.30q = %v, %d", c.digits, a, e)
		}
		if a, e := Analyze(rules, c.digits, true); a != (api.Analysis{State: c.bloc, Rule: c.rule}) || e != api.OK {
			t.Errorf("en-bloc analysis of %.30q = %v, %d", c.digits, a, e)
		}
	}
	if a, e := Analyze(nil, "", false); a != (api.Analysis{State: more, Rule: -1}) || e != api.OK {
		t.Error(a, e)
	}
	if a, e := Analyze(nil, "0", false); a != (api.Analysis{State: invalid, Rule: -1}) || e != api.OK {
		t.Error(a, e)
	}
	if a, e := Analyze(nil, "", true); a != (api.Analysis{State: invalid, Rule: -1}) || e != api.OK {
		t.Error(a, e)
	}
}

// P8.2 and P8.3: every single rule with a short prefix, and all short digit strings.
func TestEveryRule(t *testing.T) {
	asked := words("12", 6)
	for _, prefix := range words("12", 2)[1:] {
		for from := len(prefix); from < 5; from++ {
			for to := from; to < 6; to++ {
				for kind := 1; kind <= 4; kind++ {
					for _, s := range asked {
						checkDigits(t, []api.DialRule{{Prefix: prefix, Min: from, Max: to, Kind: kind}}, s)
					}
				}
			}
		}
	}
}

// P8.2 and P8.3: any plans, and all short digit strings.
func TestRandomPlans(t *testing.T) {
	r := rand.New(rand.NewSource(1))
	asked := words("0123", 5)
	for range 40 {
		rules := randomPlan(r, 12)
		for _, s := range asked {
			checkDigits(t, rules, s)
		}
		for range 50 {
			checkDigits(t, rules, strings.Repeat(asked[r.Intn(len(asked))], 1+r.Intn(6)))
		}
	}
}

// P8.2 and P8.3: as many rules as there may be, with prefixes as long as they may be.
func TestFullPlan(t *testing.T) {
	rules := fullPlan()
	for i, x := range rules {
		checkDigits(t, rules, x.Prefix[:i%16])
		checkDigits(t, rules, x.Prefix+"123456789"[:i%10])
	}
}

// P8.3: how many digits are used, none left, some left, and many left.
func TestFeed(t *testing.T) {
	rules := append(examplePlan(), api.DialRule{Prefix: "00", Min: 4, Max: 20, Kind: api.CallNumber})
	const more, complete, invalid = api.NeedMore, api.Complete, api.Invalid
	for _, c := range []struct {
		digits            string
		used, state, rule int
	}{
		{"", 0, more, -1},
		{"1", 1, more, 0},
		{"11", 2, more, 0},
		{"112", 3, complete, 0},
		{"1125", 3, complete, 0},
		{"112" + ones(1<<16), 3, complete, 0},
		{"21234", 5, more, 1},
		{"2123456", 7, complete, 1},
		{"21234567", 7, complete, 1},
		{"29", 2, invalid, 2},
		{"2912345", 2, invalid, 2},
		{"3", 1, invalid, -1},
		{"3112", 1, invalid, -1},
		{"0", 1, more, -1},
		{"01", 2, invalid, -1},
		{"0" + ones(1<<16), 2, invalid, -1},
		{"00" + ones(17), 19, more, 3},
		{"00" + ones(18), 20, complete, 3},
		{"00" + ones(19), 20, complete, 3},
		{"00" + ones(1<<20), 20, complete, 3},
	} {
		used, a, e := Feed(rules, c.digits)
		if used != c.used || a != (api.Analysis{State: c.state, Rule: c.rule}) || e != api.OK {
			t.Errorf("Feed(%.30q) = %d, %v, %d", c.digits, used, a, e)
		}
	}
	if used, a, e := Feed(nil, "12"); used != 1 || a != (api.Analysis{State: invalid, Rule: -1}) || e != api.OK {
		t.Error(used, a, e)
	}
	if used, a, e := Feed(nil, ""); used != 0 || a != (api.Analysis{State: more, Rule: -1}) || e != api.OK {
		t.Error(used, a, e)
	}
}

// P8.4: what overlap dialling decides, en-bloc dialling decides likewise.
func TestOverlapAndEnBloc(t *testing.T) {
	r := rand.New(rand.NewSource(2))
	for range 60 {
		rules := randomPlan(r, 20)
		for _, s := range words("012", 5) {
			a, _ := Analyze(rules, s, false)
			b, _ := Analyze(rules, s, true)
			if a.State != api.NeedMore && a != b || a.Rule != b.Rule || b.State == api.NeedMore {
				t.Errorf("%q by %v: %v in overlap, %v en bloc", s, rules, a, b)
			}
		}
	}
}

// P8.4: after 20 digits no more digits are needed, even where prefixes and numbers are as long as they may be.
func TestTwentyDigits(t *testing.T) {
	rules := []api.DialRule{
		{Prefix: "1", Min: 1, Max: 20, Kind: api.CallNumber},
		{Prefix: ones(15), Min: 15, Max: 20, Kind: api.FeatureCode},
		{Prefix: ones(14) + "2", Min: 20, Max: 20, Kind: api.EmergencyNumber},
		{Prefix: "3", Min: 15, Max: 15, Kind: api.Barred},
	}
	for n := range 30 {
		for _, s := range []string{ones(n), "12" + ones(n), ones(14) + "2" + ones(n), "3" + ones(n)} {
			checkDigits(t, rules, s)
			if a, e := Analyze(rules, s, false); len(s) >= 20 && a.State == api.NeedMore || e != api.OK {
				t.Errorf("Analyze(%q) = %v, %d", s, a, e)
			}
			if used, _, e := Feed(rules, s); used > 20 || e != api.OK {
				t.Errorf("Feed(%q) uses %d digits, error %d", s, used, e)
			}
		}
	}
}

// P8.4: the rules in another order, and what becomes of their indices.
func TestOrder(t *testing.T) {
	r := rand.New(rand.NewSource(3))
	for range 60 {
		rules := randomPlan(r, 20)
		order := r.Perm(len(rules))
		moved := make([]api.DialRule, len(rules))
		for i, k := range order {
			moved[k] = rules[i]
		}
		place := func(a api.Analysis) api.Analysis {
			if a.Rule >= 0 {
				a.Rule = order[a.Rule]
			}
			return a
		}
		for _, s := range words("012", 4) {
			for _, final := range []bool{false, true} {
				a, _ := Analyze(rules, s, final)
				if b, e := Analyze(moved, s, final); b != place(a) || e != api.OK {
					t.Errorf("Analyze(%q, %v) by %v: %v, by %v: %v, %d", s, final, rules, a, moved, b, e)
				}
			}
			n, a, _ := Feed(rules, s)
			if k, b, e := Feed(moved, s); k != n || b != place(a) || e != api.OK {
				t.Errorf("Feed(%q) by %v: %d, %v, by %v: %d, %v, %d", s, rules, n, a, moved, k, b, e)
			}
		}
	}
}

// R2 and R6: the rules that are passed stay as they are, to the end of their memory, and equal calls return equal results.
func TestMemory(t *testing.T) {
	left := api.DialRule{Prefix: "1125", Min: 4, Max: 9, Kind: api.FeatureCode}
	for n := range 4 {
		whole := append(examplePlan()[:n:n], slices.Repeat([]api.DialRule{left}, 80)...)
		before := slices.Clone(whole)
		given := whole[:n]
		for _, s := range []string{"", "1", "1125", "29", "3", "2123456", "x"} {
			a, _ := Analyze(given, s, false)
			b, _ := Analyze(given, s, true)
			used, c, _ := Feed(given, s)
			Check(given)
			a2, _ := Analyze(given, s, false)
			b2, _ := Analyze(given, s, true)
			used2, c2, _ := Feed(given, s)
			if a != a2 || b != b2 || used != used2 || c != c2 {
				t.Errorf("%q by %v: not the same twice", s, given)
			}
		}
		if !slices.Equal(whole, before) {
			t.Errorf("the rules %v became %v", before, whole)
		}
	}
}
