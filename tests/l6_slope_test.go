package tests

import (
	"fmt"
	"math"
	"regexp"
	"slices"
	"strconv"
	"strings"
	"testing"

	"loop.example/g00914/impl"
)

func offset(dx, dy, up int) impl.Offset { return impl.Offset{DX: dx, DY: dy, Up: up} }

// offsetsWhere are the wanted ones of the 50 offsets, in the order of templates.
func offsetsWhere(wanted func(o impl.Offset) bool) []impl.Offset {
	var l []impl.Offset
	for up := 1; up <= 2; up++ {
		for dy := -2; dy <= 2; dy++ {
			for dx := -2; dx <= 2; dx++ {
				if o := offset(dx, dy, up); wanted(o) {
					l = append(l, o)
				}
			}
		}
	}
	return l
}

func everyOffset() []impl.Offset { return offsetsWhere(func(impl.Offset) bool { return true }) }

// isTemplateByHand looks for the offsets among all 50, each behind the one before it.
func isTemplateByHand(l []impl.Offset) bool {
	left := everyOffset()
	for _, o := range l {
		at := slices.Index(left, o)
		if at < 0 {
			return false
		}
		left = left[at+1:]
	}
	return len(l) >= 1 && len(l) <= 12
}

// standardByHand has standard template k by the words of the document; nil if there is none.
func standardByHand(k int) []impl.Offset {
	cross := func(o impl.Offset) bool { return o.Up == 1 && apart(o.DX, 0)+apart(o.DY, 0) <= 1 }
	switch k {
	case 1:
		return []impl.Offset{offset(0, 0, 1)}
	case 2:
		return offsetsWhere(cross)
	case 3:
		return offsetsWhere(func(o impl.Offset) bool { return o.Up == 1 && max(apart(o.DX, 0), apart(o.DY, 0)) <= 1 })
	case 4:
		return offsetsWhere(func(o impl.Offset) bool {
			return cross(o) || o.Up == 2 && o.DX*o.DY == 0 && apart(o.DX, 0)+apart(o.DY, 0) == 2
		})
	}
	return nil
}

// mixedTemplate has n of the 50 offsets, in their order.
func mixedTemplate(n, seed int) []impl.Offset {
	next := numbersFrom(uint64(seed))
	left := everyOffset()
	for len(left) > n {
		at := next(len(left) - 1)
		left = slices.Delete(left, at, at+1)
	}
	return left
}

// goodTemplates are the standard ones, all with one offset, and others with 2 to 12.
func goodTemplates() [][]impl.Offset {
	all := everyOffset()
	lists := [][]impl.Offset{standardByHand(1), standardByHand(2), standardByHand(3), standardByHand(4), all[:12], all[38:], all[19:31], all[13:25]}
	for _, o := range all {
		lists = append(lists, []impl.Offset{o})
	}
	for n := 2; n <= 12; n++ {
		for seed := range 6 {
			lists = append(lists, mixedTemplate(n, 10*n+seed))
		}
	}
	return lists
}

// wrongOffsets have one number that is just beyond its range or far from it.
func wrongOffsets() []impl.Offset {
	l := []impl.Offset{{}, offset(-3, 0, 1), offset(3, 0, 1), offset(0, -3, 1), offset(0, 3, 1), offset(0, 0, 0), offset(0, 0, 3), offset(0, 0, -1), offset(3, 3, 3), offset(-3, -3, 0)}
	for _, n := range edgeInts() {
		if n < -2 || n > 2 {
			l = append(l, offset(n, 0, 1), offset(0, n, 1), offset(0, 0, n), offset(n, n, n))
		}
	}
	return l
}

// wrongTemplates are empty or too long, have offsets out of range, equal ones, or another order.
func wrongTemplates() [][]impl.Offset {
	all := everyOffset()
	lists := [][]impl.Offset{nil, {}, all, all[:13], all[37:], slices.Repeat(all[:1], 2), slices.Repeat(all[:1], 12), slices.Repeat(all[:1], 1000), slices.Repeat(all[:6], 2)}
	lists = append(lists, [][]impl.Offset{
		{offset(0, 0, 2), offset(0, 0, 1)}, {offset(-2, -2, 2), offset(2, 2, 1)}, {offset(0, 1, 1), offset(0, 0, 1)}, {offset(-1, 1, 1), offset(1, 0, 1)}, {offset(1, 0, 1), offset(0, 0, 1)},
		{offset(0, 0, 1), offset(0, 0, 1)}, {offset(2, 2, 2), offset(2, 2, 2)}, {offset(0, -1, 1), offset(0, 0, 1), offset(0, 0, 1)}, {offset(0, -1, 1), offset(0, 0, 1), offset(0, -1, 1)},
		// In order by DX first, and by DY before Up.
		{offset(-1, 1, 1), offset(0, 0, 1), offset(1, -1, 1)}, {offset(0, -1, 2), offset(0, 0, 1), offset(0, 1, 1)},
	}...)
	for _, good := range goodTemplates()[:8] {
		if len(good) > 1 {
			turned := slices.Clone(good)
			slices.Reverse(turned)
			twice := slices.Clone(good)
			twice[len(twice)-1] = twice[len(twice)-2]
			lists = append(lists, turned, twice)
		}
	}
	for _, o := range wrongOffsets() {
		lists = append(lists, []impl.Offset{o}, []impl.Offset{o, offset(0, 0, 1)}, []impl.Offset{offset(0, 0, 1), o}, []impl.Offset{offset(-2, -2, 1), o, offset(2, 2, 2)})
	}
	return lists
}

func copySlopes(s impl.Slopes) impl.Slopes {
	c := impl.Slopes{Sectors: slices.Clone(s.Sectors)}
	for _, template := range s.Templates {
		c.Templates = append(c.Templates, slices.Clone(template))
	}
	return c
}

func sameTemplates(a, b [][]impl.Offset) bool {
	return slices.EqualFunc(a, b, func(p, q []impl.Offset) bool { return slices.Equal(p, q) })
}

func sameSlopes(a, b impl.Slopes) bool {
	return slices.Equal(a.Sectors, b.Sectors) && sameTemplates(a.Templates, b.Templates)
}

func isNoSlopes(s impl.Slopes) bool { return len(s.Sectors) == 0 && len(s.Templates) == 0 }

func sameArcs(a, b [][]int) bool {
	return slices.EqualFunc(a, b, func(p, q []int) bool { return slices.Equal(p, q) })
}

// evenSlopes have one sector everywhere.
func evenSlopes(g impl.Grid, sector int, templates ...[]impl.Offset) impl.Slopes {
	return copySlopes(impl.Slopes{Sectors: slices.Repeat([]int{sector}, g.X*g.Y), Templates: templates})
}

// mixedSlopes have n templates.
func mixedSlopes(g impl.Grid, n, seed int) impl.Slopes {
	next := numbersFrom(uint64(seed))
	good := goodTemplates()
	var s impl.Slopes
	for range n {
		s.Templates = append(s.Templates, good[next(len(good)-1)])
	}
	for range g.X * g.Y {
		s.Sectors = append(s.Sectors, next(n-1))
	}
	return copySlopes(s)
}

// goodSlopes have one to four templates, of which some are equal and some have no sector.
func goodSlopes(g impl.Grid, seed int) []impl.Slopes {
	good := goodTemplates()
	one, many := good[seed%len(good)], good[(7*seed+3)%len(good)]
	l := []impl.Slopes{evenSlopes(g, 0, one), evenSlopes(g, 1, one, many), evenSlopes(g, 0, many, one), evenSlopes(g, 1, many, many), evenSlopes(g, 3, one, many, good[4], good[5]), evenSlopes(g, 2, one, one, one, one)}
	for k := 1; k <= 4; k++ {
		l = append(l, evenSlopes(g, 0, standardByHand(k)), mixedSlopes(g, k, 10*seed+k), mixedSlopes(g, k, 10*seed+k+4))
	}
	return l
}

// wrongSlopes are slopes that do not fit to a valid grid.
func wrongSlopes(g impl.Grid) []impl.Slopes {
	n := g.X * g.Y
	one := standardByHand(2)
	l := []impl.Slopes{{}, {Templates: [][]impl.Offset{one}}, {Sectors: make([]int, n)}, {Sectors: make([]int, n), Templates: [][]impl.Offset{}}, evenSlopes(g, 0, one, one, one, one, one), evenSlopes(g, 4, one, one, one, one, one), evenSlopes(g, 0, slices.Repeat([][]impl.Offset{one}, 1000)...)}
	for _, count := range []int{0, n - 1, n + 1, 2 * n, n * g.Z, 1000} {
		if count != n {
			l = append(l, impl.Slopes{Sectors: make([]int, count), Templates: [][]impl.Offset{one}})
		}
	}
	for templates := 1; templates <= 4; templates++ {
		for _, sector := range outside(templates - 1) {
			for _, at := range []int{0, n - 1} {
				s := evenSlopes(g, 0, slices.Repeat([][]impl.Offset{one}, templates)...)
				s.Sectors[at] = sector
				l = append(l, s)
			}
		}
	}
	for k, wrong := range wrongTemplates() {
		l = append(l, evenSlopes(g, 0, wrong), evenSlopes(g, k%2, wrong, one), evenSlopes(g, 0, one, wrong), evenSlopes(g, 0, one, one, one, wrong))
	}
	return l
}

// arcsByHand asks for each two blocks whether the way from one to the other is an offset of its template.
func arcsByHand(g impl.Grid, s impl.Slopes) [][]int {
	spots := spotsOf(g)
	arcs := make([][]int, len(spots))
	for i, from := range spots {
		template := s.Templates[s.Sectors[from.y*g.X+from.x]]
		for k, to := range spots {
			if slices.Contains(template, offset(to.x-from.x, to.y-from.y, from.z-to.z)) {
				arcs[i] = append(arcs[i], k)
			}
		}
	}
	return arcs
}

// textShape is what texts look like, whatever the order of the offsets and the number of the sectors.
var textShape = regexp.MustCompile(`^(template( (-[12]|[012]) (-[12]|[012]) [12])+\n){1,4}sectors( [0-3])+\n$`)

// isSlopesText tells by the shape of a text whether slopes have it, and not by reading and writing it again.
func isSlopesText(g impl.Grid, text string) bool {
	if !textShape.MatchString(text) {
		return false
	}
	lines := strings.Split(strings.TrimSuffix(text, "\n"), "\n")
	last := len(lines) - 1
	for _, line := range lines[:last] {
		var template []impl.Offset
		words := strings.Fields(line)[1:]
		for k := 0; k < len(words); k += 3 {
			dx, _ := strconv.Atoi(words[k])
			dy, _ := strconv.Atoi(words[k+1])
			up, _ := strconv.Atoi(words[k+2])
			template = append(template, offset(dx, dy, up))
		}
		if !isTemplateByHand(template) {
			return false
		}
	}
	sectors := strings.Fields(lines[last])[1:]
	return len(sectors) == g.X*g.Y && slices.Max(sectors) < strconv.Itoa(last)
}

func slopesTextByHand(s impl.Slopes) string {
	text := ""
	for _, template := range s.Templates {
		text += "template"
		for _, o := range template {
			text += fmt.Sprintf(" %d %d %d", o.DX, o.DY, o.Up)
		}
		text += "\n"
	}
	text += "sectors"
	for _, sector := range s.Sectors {
		text += fmt.Sprintf(" %d", sector)
	}
	return text + "\n"
}

func TestSlopeExample(t *testing.T) {
	g := impl.Grid{X: 3, Y: 1, Z: 2}
	s, ok := impl.UniformSlopes(g, 3)
	if !ok {
		t.Fatal("no slopes")
	}
	arcs, ok := impl.ArcsOf(g, s)
	if !ok || !sameArcs(arcs, [][]int{nil, nil, nil, {0, 1}, {0, 1, 2}, {1, 2}}) {
		t.Error("arcs", arcs, ok)
	}
	if n, ok := impl.ArcCount(g, s); n != 7 || !ok {
		t.Error("count", n, ok)
	}
	l, ok := impl.TopBlocks(g, s)
	checkList(t, "top", l, ok, []int{0, 1, 2})
	want := "template -1 -1 1 0 -1 1 1 -1 1 -1 0 1 0 0 1 1 0 1 -1 1 1 0 1 1 1 1 1\nsectors 0 0 0\n"
	if text, ok := impl.SlopesText(g, s); text != want || !ok {
		t.Errorf("text %q %v", text, ok)
	}
	if back, ok := impl.ParseSlopes(g, want); !sameSlopes(back, s) || !ok {
		t.Error("slopes of a text", back, ok)
	}
}

func TestTemplateLimits(t *testing.T) {
	if impl.MaxOffsets != 12 || impl.MaxTemplates != 4 {
		t.Error("limits", impl.MaxOffsets, impl.MaxTemplates)
	}
	for _, l := range goodTemplates() {
		if !impl.IsTemplate(l) || !isTemplateByHand(l) {
			t.Error("a template is refused", l)
		}
	}
	for _, l := range wrongTemplates() {
		if impl.IsTemplate(l) || isTemplateByHand(l) {
			t.Error("no template, but taken", l)
		}
	}
	all := everyOffset()
	for n := range 51 {
		if impl.IsTemplate(all[:n]) != (n >= 1 && n <= 12) || impl.IsTemplate(all[50-n:]) != (n >= 1 && n <= 12) {
			t.Error("IsTemplate is wrong about so many offsets:", n)
		}
	}
	for dx := -4; dx <= 4; dx++ {
		for dy := -4; dy <= 4; dy++ {
			for up := -2; up <= 4; up++ {
				want := dx >= -2 && dx <= 2 && dy >= -2 && dy <= 2 && up >= 1 && up <= 2
				if impl.IsTemplate([]impl.Offset{offset(dx, dy, up)}) != want {
					t.Error("IsTemplate is wrong about the offset", dx, dy, up)
				}
			}
		}
	}
}

// Offsets are ordered by Up, then by DY, then by DX, and are not equal, at whatever place of a template.
func TestOrderOfOffsets(t *testing.T) {
	all := everyOffset()
	for i, a := range all {
		for k, b := range all {
			if impl.IsTemplate([]impl.Offset{a, b}) != (i < k) {
				t.Error("IsTemplate is wrong about the order of", a, b)
			}
			for j, c := range all {
				if impl.IsTemplate([]impl.Offset{a, b, c}) != (i < k && k < j) {
					t.Error("IsTemplate is wrong about the order of", a, b, c)
				}
			}
		}
	}
	for n := 2; n <= 12; n++ {
		for seed := range 5 {
			good := mixedTemplate(n, 100*n+seed)
			for at := range n - 1 {
				l := slices.Clone(good)
				l[at], l[at+1] = l[at+1], l[at]
				if impl.IsTemplate(l) {
					t.Error("two offsets in another order are taken", l)
				}
				l[at] = l[at+1]
				if impl.IsTemplate(l) {
					t.Error("equal offsets are taken", l)
				}
			}
		}
	}
}

func TestSlopesLimits(t *testing.T) {
	for k, g := range allGrids() {
		for _, s := range goodSlopes(g, k) {
			if good, ok := impl.AreSlopes(g, s); !good || !ok {
				t.Error("slopes are refused", g, s, good, ok)
			}
		}
		for _, s := range wrongSlopes(g) {
			if good, ok := impl.AreSlopes(g, s); good || !ok {
				t.Error("no slopes, but taken", g, s, good, ok)
			}
		}
	}
	for _, g := range wrongGrids() {
		for _, s := range append(goodSlopes(impl.Grid{X: 1, Y: 1, Z: 1}, 1), evenSlopes(impl.Grid{X: 9, Y: 1}, 0, standardByHand(1)), evenSlopes(impl.Grid{X: 8, Y: 6}, 0, standardByHand(1)), impl.Slopes{}) {
			if good, ok := impl.AreSlopes(g, s); good || ok {
				t.Error("slopes of no grid", g, s, good, ok)
			}
		}
	}
}

func TestSlopesAtTheirEdges(t *testing.T) {
	g := impl.Grid{X: 3, Y: 2, Z: 2}
	for count := range 12 {
		s := impl.Slopes{Sectors: make([]int, count), Templates: [][]impl.Offset{standardByHand(1)}}
		if good, ok := impl.AreSlopes(g, s); good != (count == 6) || !ok {
			t.Error("AreSlopes is wrong about so many sectors:", count, good, ok)
		}
	}
	for count := range 8 {
		s := impl.Slopes{Sectors: make([]int, 6), Templates: slices.Repeat([][]impl.Offset{standardByHand(3)}, count)}
		if good, ok := impl.AreSlopes(g, s); good != (count >= 1 && count <= 4) || !ok {
			t.Error("AreSlopes is wrong about so many templates:", count, good, ok)
		}
		for at := range 6 {
			for sector := -2; sector <= 6; sector++ {
				s.Sectors = make([]int, 6)
				s.Sectors[at] = sector
				want := count >= 1 && count <= 4 && sector >= 0 && sector < count
				if good, ok := impl.AreSlopes(g, s); good != want || !ok {
					t.Error("AreSlopes is wrong about the sector", sector, "of so many templates:", count, good, ok)
				}
			}
		}
	}
}

func TestStandardTemplates(t *testing.T) {
	for k, want := range [][]impl.Offset{
		nil,
		{{DX: 0, DY: 0, Up: 1}},
		{{DX: 0, DY: -1, Up: 1}, {DX: -1, DY: 0, Up: 1}, {DX: 0, DY: 0, Up: 1}, {DX: 1, DY: 0, Up: 1}, {DX: 0, DY: 1, Up: 1}},
		{
			{DX: -1, DY: -1, Up: 1}, {DX: 0, DY: -1, Up: 1}, {DX: 1, DY: -1, Up: 1}, {DX: -1, DY: 0, Up: 1}, {DX: 0, DY: 0, Up: 1},
			{DX: 1, DY: 0, Up: 1}, {DX: -1, DY: 1, Up: 1}, {DX: 0, DY: 1, Up: 1}, {DX: 1, DY: 1, Up: 1},
		},
		{
			{DX: 0, DY: -1, Up: 1}, {DX: -1, DY: 0, Up: 1}, {DX: 0, DY: 0, Up: 1}, {DX: 1, DY: 0, Up: 1}, {DX: 0, DY: 1, Up: 1},
			{DX: 0, DY: -2, Up: 2}, {DX: -2, DY: 0, Up: 2}, {DX: 2, DY: 0, Up: 2}, {DX: 0, DY: 2, Up: 2},
		},
		nil,
	} {
		l, ok := impl.TemplateOf(k)
		if !slices.Equal(l, want) || ok != (k >= 1 && k <= 4) {
			t.Error("standard template", k, l, ok)
		}
		if ok && !impl.IsTemplate(l) {
			t.Error("a standard template is no template", k, l)
		}
	}
	for _, k := range edgeInts() {
		if l, ok := impl.TemplateOf(k); !slices.Equal(l, standardByHand(k)) || ok != (k == 1) {
			t.Error("standard template", k, l, ok)
		}
	}
}

// standardKs are the standard templates, with those just beyond them and far from them.
func standardKs() []int { return append([]int{2, 3, 4}, edgeInts()...) }

func TestUniformSlopes(t *testing.T) {
	for _, g := range allGrids() {
		for _, k := range standardKs() {
			want := impl.Slopes{}
			if k >= 1 && k <= 4 {
				want = impl.Slopes{Sectors: make([]int, g.X*g.Y), Templates: [][]impl.Offset{standardByHand(k)}}
			}
			s, ok := impl.UniformSlopes(g, k)
			if !sameSlopes(s, want) || ok != (k >= 1 && k <= 4) {
				t.Error("slopes with one template", g, k, s, ok)
			}
			if good, _ := impl.AreSlopes(g, s); good != ok {
				t.Error("slopes with one template are no slopes", g, k, s)
			}
		}
	}
}

func TestHalfSlopes(t *testing.T) {
	for _, g := range allGrids() {
		for _, west := range standardKs() {
			for _, east := range standardKs() {
				want := impl.Slopes{}
				is := west >= 1 && west <= 4 && east >= 1 && east <= 4
				if is {
					want.Templates = [][]impl.Offset{standardByHand(west), standardByHand(east)}
					for range g.Y {
						want.Sectors = append(want.Sectors, slices.Repeat([]int{0}, g.X/2)...)
						want.Sectors = append(want.Sectors, slices.Repeat([]int{1}, g.X-g.X/2)...)
					}
				}
				s, ok := impl.HalfSlopes(g, west, east)
				if !sameSlopes(s, want) || ok != is {
					t.Fatal("slopes with two templates", g, west, east, s, ok)
				}
				if good, _ := impl.AreSlopes(g, s); good != ok {
					t.Error("slopes with two templates are no slopes", g, west, east, s)
				}
			}
		}
	}
}

// An X of 1 has no west; an odd one has the column in the middle in the east.
func TestHalfSlopesAtTheirEdges(t *testing.T) {
	for _, c := range []struct {
		g    impl.Grid
		want []int
	}{
		{impl.Grid{X: 1, Y: 1, Z: 1}, []int{1}}, {impl.Grid{X: 1, Y: 3, Z: 2}, []int{1, 1, 1}}, {impl.Grid{X: 2, Y: 1, Z: 5}, []int{0, 1}}, {impl.Grid{X: 2, Y: 2, Z: 1}, []int{0, 1, 0, 1}},
		{impl.Grid{X: 3, Y: 1, Z: 1}, []int{0, 1, 1}}, {impl.Grid{X: 3, Y: 2, Z: 3}, []int{0, 1, 1, 0, 1, 1}}, {impl.Grid{X: 7, Y: 1, Z: 1}, []int{0, 0, 0, 1, 1, 1, 1}}, {impl.Grid{X: 8, Y: 1, Z: 1}, []int{0, 0, 0, 0, 1, 1, 1, 1}},
	} {
		s, ok := impl.HalfSlopes(c.g, 4, 1)
		if !slices.Equal(s.Sectors, c.want) || !sameTemplates(s.Templates, [][]impl.Offset{standardByHand(4), standardByHand(1)}) || !ok {
			t.Error("slopes with two templates", c, s, ok)
		}
		if s, ok := impl.HalfSlopes(c.g, 2, 2); !slices.Equal(s.Sectors, c.want) || len(s.Templates) != 2 || !ok {
			t.Error("slopes with the same template twice", c, s, ok)
		}
	}
	g := impl.Grid{X: 2, Y: 1, Z: 2}
	s, _ := impl.HalfSlopes(g, 1, 3)
	if arcs, ok := impl.ArcsOf(g, s); !sameArcs(arcs, [][]int{nil, nil, {0}, {0, 1}}) || !ok {
		t.Error("arcs in the west and in the east", arcs, ok)
	}
}

func TestTurnedTemplates(t *testing.T) {
	for _, l := range goodTemplates() {
		// An offset that is turned back the other way is in the template.
		want := offsetsWhere(func(o impl.Offset) bool { return slices.Contains(l, offset(o.DY, -o.DX, o.Up)) })
		turned, ok := impl.TurnTemplate(l)
		if !slices.Equal(turned, want) || !ok || !impl.IsTemplate(turned) {
			t.Error("turned", l, turned, ok)
		}
		four := l
		for range 4 {
			four, ok = impl.TurnTemplate(four)
		}
		if !slices.Equal(four, l) || !ok {
			t.Error("turned four times", l, four, ok)
		}
	}
	for k := 1; k <= 4; k++ {
		if l, ok := impl.TurnTemplate(standardByHand(k)); !slices.Equal(l, standardByHand(k)) || !ok {
			t.Error("a standard template is the same when it is turned", k, l, ok)
		}
	}
	for _, l := range wrongTemplates() {
		if turned, ok := impl.TurnTemplate(l); len(turned) != 0 || ok {
			t.Error("turned", l, turned, ok)
		}
	}
}

func TestTurnsByTheDocument(t *testing.T) {
	for _, c := range []struct{ l, want []impl.Offset }{
		{[]impl.Offset{offset(0, 0, 1)}, []impl.Offset{offset(0, 0, 1)}}, {[]impl.Offset{offset(1, 0, 1)}, []impl.Offset{offset(0, 1, 1)}}, {[]impl.Offset{offset(0, 1, 1)}, []impl.Offset{offset(-1, 0, 1)}},
		{[]impl.Offset{offset(2, 1, 2)}, []impl.Offset{offset(-1, 2, 2)}}, {[]impl.Offset{offset(-2, -2, 1)}, []impl.Offset{offset(2, -2, 1)}}, {[]impl.Offset{offset(2, -2, 1)}, []impl.Offset{offset(2, 2, 1)}},
		// The offsets come into another order.
		{[]impl.Offset{offset(0, -1, 1), offset(0, 1, 1)}, []impl.Offset{offset(-1, 0, 1), offset(1, 0, 1)}}, {[]impl.Offset{offset(0, 0, 1), offset(1, 0, 1), offset(0, 1, 1)}, []impl.Offset{offset(-1, 0, 1), offset(0, 0, 1), offset(0, 1, 1)}},
		{[]impl.Offset{offset(2, 0, 1), offset(-2, 0, 2)}, []impl.Offset{offset(0, 2, 1), offset(0, -2, 2)}}, {[]impl.Offset{offset(-2, 0, 1), offset(2, 0, 1), offset(-1, 2, 1)}, []impl.Offset{offset(0, -2, 1), offset(-2, -1, 1), offset(0, 2, 1)}},
	} {
		if l, ok := impl.TurnTemplate(c.l); !slices.Equal(l, c.want) || !ok {
			t.Error("turned", c, l, ok)
		}
	}
}

func TestSteeperTemplates(t *testing.T) {
	good := goodTemplates()
	steeper, flatter := 0, 0
	for _, a := range good {
		for _, b := range good {
			want := true
			for _, o := range a {
				want = want && slices.Contains(b, o)
			}
			if got, ok := impl.IsSteeper(a, b); got != want || !ok {
				t.Error("steeper", a, b, got, ok)
			}
			if want {
				steeper++
			} else {
				flatter++
			}
		}
	}
	if steeper < 300 || flatter < 300 {
		t.Error("few pairs of one kind", steeper, flatter)
	}
	for _, c := range []struct {
		a, b []impl.Offset
		want bool
	}{
		{standardByHand(1), standardByHand(4), true}, {standardByHand(2), standardByHand(3), true}, {standardByHand(2), standardByHand(4), true}, {standardByHand(4), standardByHand(2), false},
		// Neither is steeper than the other, though they share offsets, or each is, as they are equal.
		{standardByHand(3), standardByHand(4), false}, {standardByHand(4), standardByHand(3), false}, {[]impl.Offset{offset(0, 0, 1)}, []impl.Offset{offset(0, 0, 2)}, false}, {[]impl.Offset{offset(0, 0, 2)}, []impl.Offset{offset(0, 0, 1)}, false}, {standardByHand(3), standardByHand(3), true}, {standardByHand(4), standardByHand(4), true},
		{[]impl.Offset{offset(-1, 0, 1)}, []impl.Offset{offset(0, -1, 1)}, false}, {[]impl.Offset{offset(1, 0, 1)}, []impl.Offset{offset(-1, 0, 1)}, false}, {[]impl.Offset{offset(2, 2, 2)}, []impl.Offset{offset(0, 0, 1), offset(2, 2, 2)}, true}, {[]impl.Offset{offset(0, 0, 1), offset(2, 2, 2)}, []impl.Offset{offset(0, 0, 1)}, false},
	} {
		if got, ok := impl.IsSteeper(c.a, c.b); got != c.want || !ok {
			t.Error("steeper", c, got, ok)
		}
	}
	for k, wrong := range wrongTemplates() {
		for _, l := range [][]impl.Offset{good[k%len(good)], standardByHand(1), wrong} {
			for _, pair := range [][2][]impl.Offset{{wrong, l}, {l, wrong}} {
				if got, ok := impl.IsSteeper(pair[0], pair[1]); got || ok {
					t.Error("steeper", pair, got, ok)
				}
			}
		}
	}
}

// checkArcs demands that arcs lead to higher levels by offsets of the templates, and that none is missing.
func checkArcs(t *testing.T, g impl.Grid, s impl.Slopes) {
	t.Helper()
	arcs, ok := impl.ArcsOf(g, s)
	spots := spotsOf(g)
	if !ok || len(arcs) != len(spots) {
		t.Fatal("arcs", g, s, arcs, ok)
	}
	count := 0
	var top []int
	for i, above := range arcs {
		if !isIncreasing(above) {
			t.Fatal("arcs are not increasing", g, s, i, above)
		}
		for _, k := range above {
			if k < 0 || k >= i || spots[k].z >= spots[i].z {
				t.Fatal("an arc does not lead to a higher level", g, s, i, k)
			}
		}
		count += len(above)
		if len(above) == 0 {
			top = append(top, i)
		}
	}
	if want := arcsByHand(g, s); !sameArcs(arcs, want) {
		t.Fatal("arcs are not those of the templates", g, s, arcs, "not", want)
	}
	if n, ok := impl.ArcCount(g, s); n != count || !ok {
		t.Error("number of arcs", g, s, n, ok, "not", count)
	}
	l, ok := impl.TopBlocks(g, s)
	checkList(t, fmt.Sprint("top ", g, s), l, ok, top)
}

// Promise 6: arcs lead to higher levels and are those of the templates.
func TestArcs(t *testing.T) {
	for k, g := range allGrids() {
		for _, s := range goodSlopes(g, k) {
			checkArcs(t, g, s)
		}
	}
}

func TestArcsOfAllTemplates(t *testing.T) {
	good := goodTemplates()
	for _, g := range []impl.Grid{{X: 1, Y: 1, Z: 5}, {X: 3, Y: 2, Z: 2}, {X: 5, Y: 5, Z: 3}, {X: 8, Y: 5, Z: 3}, {X: 4, Y: 6, Z: 5}} {
		for k, l := range good {
			checkArcs(t, g, evenSlopes(g, 0, l))
			checkArcs(t, g, mixedSlopes(g, 1+k%4, 1000+k))
		}
	}
}

func TestArcsAtTheirEdges(t *testing.T) {
	up, far := []impl.Offset{offset(0, 0, 2)}, []impl.Offset{offset(0, 0, 1), offset(0, 0, 2)}
	for _, c := range []struct {
		g    impl.Grid
		s    impl.Slopes
		want [][]int
	}{
		// One block, one level: nothing lies above.
		{impl.Grid{X: 1, Y: 1, Z: 1}, evenSlopes(impl.Grid{X: 1, Y: 1}, 0, standardByHand(3)), [][]int{nil}},
		{impl.Grid{X: 2, Y: 1, Z: 1}, evenSlopes(impl.Grid{X: 2, Y: 1}, 0, standardByHand(4)), [][]int{nil, nil}},
		// With Up 2 alone the blocks of the levels 0 and 1 have no arcs; with Up 1 and 2 a list begins with the farther block.
		{impl.Grid{X: 1, Y: 1, Z: 2}, evenSlopes(impl.Grid{X: 1, Y: 1}, 0, up), [][]int{nil, nil}},
		{impl.Grid{X: 1, Y: 1, Z: 3}, evenSlopes(impl.Grid{X: 1, Y: 1}, 0, up), [][]int{nil, nil, {0}}},
		{impl.Grid{X: 1, Y: 1, Z: 4}, evenSlopes(impl.Grid{X: 1, Y: 1}, 0, up), [][]int{nil, nil, {0}, {1}}},
		{impl.Grid{X: 1, Y: 1, Z: 2}, evenSlopes(impl.Grid{X: 1, Y: 1}, 0, far), [][]int{nil, {0}}},
		{impl.Grid{X: 1, Y: 1, Z: 4}, evenSlopes(impl.Grid{X: 1, Y: 1}, 0, far), [][]int{nil, {0}, {0, 1}, {1, 2}}},
		// Where the offsets lead out of the grid a block has no arcs, on whatever level.
		{impl.Grid{X: 2, Y: 1, Z: 2}, evenSlopes(impl.Grid{X: 2, Y: 1}, 0, []impl.Offset{offset(1, 0, 1)}), [][]int{nil, nil, {1}, nil}},
		{impl.Grid{X: 2, Y: 1, Z: 3}, evenSlopes(impl.Grid{X: 2, Y: 1}, 0, []impl.Offset{offset(-1, 0, 1)}), [][]int{nil, nil, nil, {0}, nil, {2}}},
		{impl.Grid{X: 1, Y: 2, Z: 2}, evenSlopes(impl.Grid{X: 1, Y: 2}, 0, []impl.Offset{offset(0, 1, 1)}), [][]int{nil, nil, {1}, nil}},
		{impl.Grid{X: 2, Y: 2, Z: 2}, evenSlopes(impl.Grid{X: 2, Y: 2}, 0, []impl.Offset{offset(2, 0, 1)}), [][]int{nil, nil, nil, nil, nil, nil, nil, nil}},
		{impl.Grid{X: 3, Y: 1, Z: 2}, evenSlopes(impl.Grid{X: 3, Y: 1}, 0, []impl.Offset{offset(-2, 0, 1), offset(2, 0, 1)}), [][]int{nil, nil, nil, {2}, nil, {0}}},
		// Sides and corners.
		{impl.Grid{X: 2, Y: 2, Z: 2}, evenSlopes(impl.Grid{X: 2, Y: 2}, 0, standardByHand(2)), [][]int{nil, nil, nil, nil, {0, 1, 2}, {0, 1, 3}, {0, 2, 3}, {1, 2, 3}}},
		{impl.Grid{X: 3, Y: 1, Z: 3}, evenSlopes(impl.Grid{X: 3, Y: 1}, 0, standardByHand(4)), [][]int{nil, nil, nil, {0, 1}, {0, 1, 2}, {1, 2}, {2, 3, 4}, {3, 4, 5}, {0, 4, 5}}},
		// Sectors differ by x, by y, and are the same on all levels.
		{impl.Grid{X: 2, Y: 1, Z: 3}, impl.Slopes{Sectors: []int{1, 0}, Templates: [][]impl.Offset{standardByHand(1), standardByHand(2)}}, [][]int{nil, nil, {0, 1}, {1}, {2, 3}, {3}}},
		{impl.Grid{X: 1, Y: 2, Z: 3}, impl.Slopes{Sectors: []int{2, 0}, Templates: [][]impl.Offset{up, standardByHand(3), standardByHand(2)}}, [][]int{nil, nil, {0, 1}, nil, {2, 3}, {1}}},
	} {
		arcs, ok := impl.ArcsOf(c.g, c.s)
		if !sameArcs(arcs, c.want) || !ok {
			t.Error("arcs", c, arcs, ok)
		}
		checkArcs(t, c.g, c.s)
	}
}

// Steeper slopes have no arcs that others do not have.
func TestSteeperSlopesHaveFewerArcs(t *testing.T) {
	g := impl.Grid{X: 4, Y: 4, Z: 4}
	for _, a := range goodTemplates() {
		for _, b := range goodTemplates()[:8] {
			steeper, ok := impl.IsSteeper(a, b)
			if !ok || !steeper {
				continue
			}
			few, _ := impl.ArcsOf(g, evenSlopes(g, 0, a))
			many, ok := impl.ArcsOf(g, evenSlopes(g, 0, b))
			if !ok || len(few) != 64 || len(many) != 64 {
				t.Fatal("arcs", a, b, few, many)
			}
			for i := range few {
				for _, k := range few[i] {
					if !slices.Contains(many[i], k) {
						t.Error("steeper slopes have another arc", a, b, i, k)
					}
				}
			}
		}
	}
}

// A template that no sector has makes no arcs.
func TestTemplatesWithoutSectors(t *testing.T) {
	g := impl.Grid{X: 4, Y: 3, Z: 4}
	for _, l := range goodTemplates() {
		s := evenSlopes(g, 1, l, standardByHand(1), l)
		arcs, ok := impl.ArcsOf(g, s)
		alone, _ := impl.ArcsOf(g, evenSlopes(g, 0, standardByHand(1)))
		if !sameArcs(arcs, alone) || !ok {
			t.Error("arcs", s, arcs, ok)
		}
		if n, ok := impl.ArcCount(g, s); n != 36 || !ok {
			t.Error("number of arcs", s, n, ok)
		}
	}
}

func TestSlopesTextsAreReadBack(t *testing.T) {
	for k, g := range allGrids() {
		for _, s := range goodSlopes(g, k) {
			text, ok := impl.SlopesText(g, s)
			if text != slopesTextByHand(s) || !ok {
				t.Errorf("text of %v: %q %v", s, text, ok)
			}
			back, ok := impl.ParseSlopes(g, text)
			if !sameSlopes(back, s) || !ok {
				t.Errorf("slopes of %q: %v %v", text, back, ok)
			}
		}
	}
	for k, l := range goodTemplates() {
		g := allGrids()[k%len(allGrids())]
		s := evenSlopes(g, 0, l)
		if back, ok := impl.ParseSlopes(g, slopesTextByHand(s)); !sameSlopes(back, s) || !ok {
			t.Error("slopes of a text", s, back, ok)
		}
	}
}

// wrongWords are words that are no number of slopes, in whatever place.
func wrongWords() []string {
	return []string{
		"-3", "5", "9", "-0", "+0", "+1", "-1 ", "--1", "- 1", "00", "01", "02", "-01", "-00", "001", "0x1", "0b1", "0o1", "1_0", "1e0", "1.0", "1.", ".", "a", "-", "+", "", "'", "1,", "\u0661", "\uff11", "\u22121", "\xff", "1\x00",
		strconv.Itoa(math.MinInt), strconv.Itoa(math.MaxInt), "9223372036854775808", "-9223372036854775809", "18446744073709551616", "18446744073709551617", "4294967296", "4294967297", strings.Repeat("0", 100000), strings.Repeat("9", 100000), strings.Repeat("0", 100000) + "1",
	}
}

// wrongSlopesTexts are texts that no slopes have in a grid of 2x1 blocks.
func wrongSlopesTexts() []string {
	texts := []string{
		"", "\n", "\n\n", " ", "template", "template\n", "sectors", "sectors\n", "sectors 0 0\n", "sectors 0 0", "template 0 0 1\n", "template 0 0 1", "template 0 0 1\nsectors", "template 0 0 1\nsectors\n", "template\nsectors 0 0\n", "template \nsectors 0 0\n", "0 0 1\n0 0\n", "0 0\n",
		// The newlines: none at the end, empty lines, others, and carriage returns.
		"template 0 0 1\nsectors 0 0", "template 0 0 1\nsectors 0 0\n\n", "\ntemplate 0 0 1\nsectors 0 0\n", "template 0 0 1\n\nsectors 0 0\n", "template 0 0 1\r\nsectors 0 0\r\n", "template 0 0 1\nsectors 0 0\r\n", "template 0 0 1\r\nsectors 0 0\n", "template 0 0 1\rsectors 0 0\r", "template 0 0 1\n\rsectors 0 0\n\r", "template 0 0 1 sectors 0 0\n", "template 0 0 1\n0 0 2\nsectors 0 0\n", "template\n0 0 1\nsectors\n0 0\n", "template 0 0 1\nsectors 0\n0\n", "template 0 0\n1\nsectors 0 0\n", "template 0 0 1\vsectors 0 0\v", "template 0 0 1\u2028sectors 0 0\u2028", "template 0 0 1\u0085sectors 0 0\u0085",
		// The blanks: two of them, before and behind a line, and others.
		"template  0 0 1\nsectors 0 0\n", "template 0  0 1\nsectors 0 0\n", "template 0 0 1\nsectors  0 0\n", "template 0 0 1\nsectors 0  0\n", " template 0 0 1\nsectors 0 0\n", "template 0 0 1 \nsectors 0 0\n", "template 0 0 1\n sectors 0 0\n", "template 0 0 1\nsectors 0 0 \n", "template 0 0 1\nsectors 0 0\n ", "template\t0 0 1\nsectors 0 0\n", "template 0\t0 1\nsectors 0 0\n", "template 0 0 1\nsectors\t0\t0\n", "template\u00a00 0 1\nsectors 0 0\n", "template 0 0\u30001\nsectors 0 0\n", "template 001\nsectors 0 0\n", "template 0 0 1\nsectors 00\n", "template0 0 1\nsectors 0 0\n", "template 0 0 1\nsectors0 0\n",
		// Lines in another order, twice, or missing.
		"sectors 0 0\ntemplate 0 0 1\n", "template 0 0 1\nsectors 0 0\nsectors 0 0\n", "sectors 0 0\ntemplate 0 0 1\nsectors 0 0\n", "template 0 0 1\nsectors 0 0\ntemplate 0 0 1\n", "template 0 0 1\nsectors 0\nsectors 0\n", "sectors 0 0\nsectors 0 0\n", "template 0 0 1\nsectors\nsectors 0 0\n", "template 0 0 1\nsectors 0 0\nsectors\n", "template 0 0 1\ntemplate 0 0 1\n",
		// The words: others, and the same with other letters.
		"templates 0 0 1\nsectors 0 0\n", "Template 0 0 1\nsectors 0 0\n", "TEMPLATE 0 0 1\nsectors 0 0\n", "template 0 0 1\nSectors 0 0\n", "template 0 0 1\nsector 0 0\n", "template template 0 0 1\nsectors 0 0\n", "template 0 0 1\nsectors sectors 0 0\n", "slopes\ntemplate 0 0 1\nsectors 0 0\n", "template 0 0 1\nsectors 0 0\nend\n", "template 0 0 1;sectors 0 0\n", "template 0,0,1\nsectors 0,0\n", "\ufefftemplate 0 0 1\nsectors 0 0\n", "template 0 0 1\nsectors 0 0\n\x00",
		// Offsets whose numbers are not a multiple of three, and sectors that are too few or too many.
		"template 0\nsectors 0 0\n", "template 0 0\nsectors 0 0\n", "template 0 0 1 0\nsectors 0 0\n", "template 0 0 1 0 0\nsectors 0 0\n", "template 0 0 1 0 0 2 0\nsectors 0 0\n", "template 0 0 1 0 0 2 0 1\nsectors 0 0\n", "template 0 0 1\ntemplate 0\nsectors 0 0\n", "template 0 0 1\nsectors 0\n", "template 0 0 1\nsectors 0 0 0\n", "template 0 0 1\nsectors 0 0 0 0\n",
		// Offsets that make no template, too many templates, and sectors without a template.
		"template 0 0 2 0 0 1\nsectors 0 0\n", "template 0 0 1 0 0 1\nsectors 0 0\n", "template 1 0 1 0 0 1\nsectors 0 0\n", "template 0 1 1 0 0 1\nsectors 0 0\n", "template 0 0 0\nsectors 0 0\n", "template 0 0 3\nsectors 0 0\n", "template 3 0 1\nsectors 0 0\n", "template -3 0 1\nsectors 0 0\n", "template 0 3 1\nsectors 0 0\n", "template 0 -3 1\nsectors 0 0\n",
		strings.Repeat("template 0 0 1\n", 5) + "sectors 0 0\n", strings.Repeat("template 0 0 1\n", 20000) + "sectors 0 0\n", "template 0 0 1\nsectors 0 1\n", "template 0 0 1\nsectors 1 0\n", "template 0 0 1\nsectors -1 0\n", "template 0 0 1\nsectors 0 -1\n", strings.Repeat("template 0 0 1\n", 4) + "sectors 0 4\n",
		"template" + strings.Repeat(" 0 0 1", 30000) + "\nsectors 0 0\n", "template 0 0 1\nsectors" + strings.Repeat(" 0", 100000) + "\n", strings.Repeat("template ", 10000), strings.Repeat("\n", 100000), strings.Repeat(" ", 100000), "\xff", "template \xff\nsectors 0 0\n",
	}
	thirteen := evenSlopes(impl.Grid{X: 2, Y: 1}, 0, everyOffset()[:13])
	texts = append(texts, slopesTextByHand(thirteen))
	for _, word := range wrongWords() {
		texts = append(texts, "template "+word+" 0 1\nsectors 0 0\n", "template 0 "+word+" 1\nsectors 0 0\n", "template 0 0 1\nsectors "+word+" 0\n", "template 0 0 1\nsectors 0 "+word+"\n")
		texts = append(texts, "template 0 0 "+word+"\nsectors 0 0\n", "template 0 0 1 0 0 "+word+"\nsectors 0 0\n", "template 0 0 1\nsectors 0 0 "+word+"\n", "template 0 0 1 "+word+"\nsectors 0 0\n")
	}
	return texts
}

// checkSlopesText demands that a text is taken if slopes have it, and only then.
func checkSlopesText(t *testing.T, g impl.Grid, text string) bool {
	t.Helper()
	want := isSlopesText(g, text)
	s, ok := impl.ParseSlopes(g, text)
	if ok != want || !ok && !isNoSlopes(s) || ok && slopesTextByHand(s) != text {
		t.Errorf("slopes of %.60q in %v: %v %v", text, g, s, ok)
	}
	return ok
}

func TestTextsThatNoSlopesHave(t *testing.T) {
	g := impl.Grid{X: 2, Y: 1, Z: 2}
	if !checkSlopesText(t, g, "template 0 0 1\nsectors 0 0\n") {
		t.Error("the text that the others differ from is refused")
	}
	for _, text := range wrongSlopesTexts() {
		if checkSlopesText(t, g, text) {
			t.Errorf("the text %.60q is taken", text)
		}
	}
}

// Words that are numbers of slopes elsewhere: 1 to 4 templates take other sectors, DX and DY are negative too, and Up is not 0.
func TestNumbersInTexts(t *testing.T) {
	g := impl.Grid{X: 2, Y: 1, Z: 2}
	taken := 0
	for n := -4; n <= 5; n++ {
		for templates := range 6 {
			head := strings.Repeat("template 0 0 1\n", templates)
			for _, text := range []string{head + fmt.Sprintf("sectors %d 0\n", n), head + fmt.Sprintf("sectors 0 %d\n", n), head + fmt.Sprintf("sectors %d\n", n)} {
				if checkSlopesText(t, g, text) {
					taken++
				}
			}
		}
		for _, text := range []string{fmt.Sprintf("template %d 0 1\nsectors 0 0\n", n), fmt.Sprintf("template 0 %d 1\nsectors 0 0\n", n), fmt.Sprintf("template 0 0 %d\nsectors 0 0\n", n), fmt.Sprintf("template 0 0 1 %d 0 1\nsectors 0 0\n", n), fmt.Sprintf("template %d 0 1 %d 1 1\nsectors 0 0\n", n, n)} {
			if checkSlopesText(t, g, text) {
				taken++
			}
		}
	}
	// 1 to 4 sectors in two places; 5 and 5 shifts and 2 levels; 2 shifts behind 0, and 5 in two offsets.
	if want := 2*(1+2+3+4) + 5 + 5 + 2 + 2 + 5; taken != want {
		t.Error("so many texts are taken:", taken, "not", want)
	}
}

func TestSlopesTextsWithOneByteChanged(t *testing.T) {
	g := impl.Grid{X: 3, Y: 2, Z: 2}
	good := "template -1 0 1 2 -2 2 -1 2 2\ntemplate 0 0 1\ntemplate -2 -2 1 0 0 2\nsectors 0 2 1 1 0 2\n"
	if !checkSlopesText(t, g, good) {
		t.Fatal("a text is refused", good)
	}
	taken := 0
	for at := range len(good) + 1 {
		for b := range 256 {
			checkSlopesText(t, g, good[:at]+string([]byte{byte(b)})+good[at:])
			if at < len(good) && checkSlopesText(t, g, good[:at]+string([]byte{byte(b)})+good[at+1:]) {
				taken++
			}
		}
		checkSlopesText(t, g, good[:at])
		checkSlopesText(t, g, good[at:])
		if at < len(good) {
			checkSlopesText(t, g, good[:at]+good[at+1:])
		}
	}
	if taken <= len(good)+12 {
		t.Error("few texts with another digit are taken", taken)
	}
}

// A text belongs to grids with as many blocks in a level, whatever the number of levels.
func TestTextsOfOtherGrids(t *testing.T) {
	for k, g := range allGrids() {
		s := mixedSlopes(g, 1+k%4, k)
		text := slopesTextByHand(s)
		for _, other := range allGrids() {
			back, ok := impl.ParseSlopes(other, text)
			if is := g.X*g.Y == other.X*other.Y; ok != is || is && !sameSlopes(back, s) || !is && !isNoSlopes(back) {
				t.Errorf("slopes of %q in %v: %v %v", text, other, back, ok)
			}
		}
	}
}

// checkNoArcs demands the zero values from all functions that need slopes.
func checkNoArcs(t *testing.T, g impl.Grid, s impl.Slopes) {
	t.Helper()
	if arcs, ok := impl.ArcsOf(g, s); len(arcs) != 0 || ok {
		t.Error("arcs", g, s, arcs, ok)
	}
	if n, ok := impl.ArcCount(g, s); n != 0 || ok {
		t.Error("number of arcs", g, s, n, ok)
	}
	if l, ok := impl.TopBlocks(g, s); len(l) != 0 || ok {
		t.Error("top", g, s, l, ok)
	}
	if text, ok := impl.SlopesText(g, s); text != "" || ok {
		t.Error("text", g, s, text, ok)
	}
}

func TestWrongSlopesGiveNothing(t *testing.T) {
	for _, g := range []impl.Grid{{X: 1, Y: 1, Z: 1}, {X: 1, Y: 1, Z: 5}, {X: 3, Y: 2, Z: 2}, {X: 8, Y: 5, Z: 3}, {X: 4, Y: 6, Z: 5}} {
		for _, s := range wrongSlopes(g) {
			checkNoArcs(t, g, s)
		}
	}
}

func TestWrongGridsHaveNoSlopes(t *testing.T) {
	for _, g := range wrongGrids() {
		// As many sectors as the grid would have blocks in a level, if that is a number of sectors at all.
		count := 1
		if g.X > 0 && g.Y > 0 && g.X < 100 && g.Y < 100 {
			count = g.X * g.Y
		}
		s := impl.Slopes{Sectors: make([]int, count), Templates: [][]impl.Offset{standardByHand(1)}}
		for _, s := range []impl.Slopes{s, {}, {Templates: s.Templates}, {Sectors: s.Sectors}} {
			checkNoArcs(t, g, s)
		}
		for _, text := range []string{slopesTextByHand(s), "template 0 0 1\nsectors\n", "template 0 0 1\nsectors 0\n", "sectors\n", ""} {
			if s, ok := impl.ParseSlopes(g, text); !isNoSlopes(s) || ok {
				t.Error("slopes of a text", g, text, s, ok)
			}
		}
		for _, k := range standardKs() {
			if s, ok := impl.UniformSlopes(g, k); !isNoSlopes(s) || ok {
				t.Error("slopes with one template", g, k, s, ok)
			}
			for _, east := range []int{1, 4, 5, math.MinInt} {
				if s, ok := impl.HalfSlopes(g, k, east); !isNoSlopes(s) || ok {
					t.Error("slopes with two templates", g, k, east, s, ok)
				}
			}
		}
	}
}

// useSlopes calls all functions that take slopes or templates, and writes into everything that they return, so that shared memory shows.
func useSlopes(g impl.Grid, s impl.Slopes, a, b []impl.Offset) {
	impl.AreSlopes(g, s)
	impl.IsTemplate(a)
	impl.IsSteeper(a, b)
	impl.ArcCount(g, s)
	impl.SlopesText(g, s)
	turned, _ := impl.TurnTemplate(a)
	spoilOffsets(turned)
	arcs, _ := impl.ArcsOf(g, s)
	for _, l := range arcs {
		spoilList(l)
	}
	top, _ := impl.TopBlocks(g, s)
	spoilList(top)
}

func spoilOffsets(l []impl.Offset) {
	whole := l[:cap(l)]
	for k := range whole {
		whole[k] = offset(-7, -7, -7)
	}
}

func spoilSlopes(s impl.Slopes) {
	spoilList(s.Sectors)
	for _, template := range s.Templates {
		spoilOffsets(template)
	}
}

// Promise 33: no argument makes a function of chapter 6 panic.
func TestSlopesNeverPanic(t *testing.T) {
	some := []impl.Grid{{X: 1, Y: 1, Z: 1}, {X: 3, Y: 2, Z: 2}, {X: 8, Y: 5, Z: 3}}
	var slopes []impl.Slopes
	for k, g := range some {
		slopes = append(slopes, append(goodSlopes(g, k), wrongSlopes(g)...)...)
	}
	templates := append(goodTemplates()[:8], wrongTemplates()...)
	for _, g := range append(wrongGrids(), some...) {
		for k, s := range slopes {
			a, b := templates[k%len(templates)], templates[(5*k+1)%len(templates)]
			noPanic(t, fmt.Sprint("a function of a grid and of slopes by their number ", g, k), func() { useSlopes(g, s, a, b) })
		}
		for _, text := range append(wrongNames(), "template 0 0 1\nsectors 0\n", "template 0 0 1\nsectors 0 0 0 0 0 0\n") {
			noPanic(t, fmt.Sprintf("ParseSlopes %v %.40q", g, text), func() { impl.ParseSlopes(g, text) })
		}
		for _, k := range standardKs() {
			noPanic(t, fmt.Sprint("a function of standard templates ", g, k), func() {
				impl.TemplateOf(k)
				impl.UniformSlopes(g, k)
				for _, east := range standardKs() {
					impl.HalfSlopes(g, k, east)
				}
			})
		}
	}
	for _, text := range wrongSlopesTexts() {
		for _, g := range []impl.Grid{{}, {X: 2, Y: 1, Z: 1}, {X: math.MinInt, Y: math.MaxInt, Z: 1}} {
			noPanic(t, fmt.Sprintf("ParseSlopes %v %.40q", g, text), func() { impl.ParseSlopes(g, text) })
		}
	}
}

// roomyOffsets gives a template with room behind its length, and the whole memory, in which the room is marked.
func roomyOffsets(l []impl.Offset) (list, whole []impl.Offset) {
	whole = append(slices.Clone(l), offset(-99, -98, -97), offset(-96, -95, -94))
	return whole[:len(l)], whole
}

// roomySlopes gives slopes of which each list has room behind its length, and a function that copies all their memory.
func roomySlopes(given impl.Slopes) (impl.Slopes, func() impl.Slopes) {
	s := impl.Slopes{}
	var whole impl.Slopes
	s.Sectors, whole.Sectors = roomy(given.Sectors)
	for _, template := range given.Templates {
		list, memory := roomyOffsets(template)
		s.Templates = append(s.Templates, list)
		whole.Templates = append(whole.Templates, memory)
	}
	behind, _ := roomyOffsets([]impl.Offset{offset(-93, -92, -91)})
	n := len(s.Templates)
	room := append(s.Templates, behind)
	s.Templates = room[:n]
	return s, func() impl.Slopes {
		c := copySlopes(whole)
		for k, template := range room {
			c.Templates = append(c.Templates, slices.Clone(template))
			c.Sectors = append(c.Sectors, k, len(template))
		}
		return c
	}
}

// Promise 33: no function of chapter 6 changes its arguments or what lies behind them.
func TestSlopeArgumentsStay(t *testing.T) {
	templates := append(goodTemplates(), wrongTemplates()...)
	for _, g := range []impl.Grid{{X: 1, Y: 1, Z: 1}, {X: 3, Y: 2, Z: 2}, {X: 2, Y: 2, Z: 3}, {X: 8, Y: 5, Z: 3}, {X: 0, Y: 1, Z: 1}} {
		near := impl.Grid{X: max(1, g.X), Y: g.Y, Z: g.Z}
		for k, given := range append(goodSlopes(near, g.X), wrongSlopes(near)...) {
			s, memory := roomySlopes(given)
			a, wholeA := roomyOffsets(templates[k%len(templates)])
			b, wholeB := roomyOffsets(templates[(3*k+1)%len(templates)])
			kept, keptA, keptB := memory(), slices.Clone(wholeA), slices.Clone(wholeB)
			useSlopes(g, s, a, b)
			if !sameSlopes(memory(), kept) || !slices.Equal(wholeA, keptA) || !slices.Equal(wholeB, keptB) {
				t.Fatal("an argument is changed", g, given, a, b)
			}
			if !sameSlopes(s, given) {
				t.Fatal("slopes are changed", g, given, s)
			}
		}
	}
	for _, l := range goodTemplates() {
		list, whole := roomyOffsets(l)
		kept := slices.Clone(whole)
		turned, ok := impl.TurnTemplate(list)
		spoilOffsets(turned)
		if !ok || !slices.Equal(whole, kept) {
			t.Fatal("a turned template shares memory with the argument", l, whole)
		}
	}
}

// checkFreshSlopes spoils the lists of slopes one by one, and demands that neither those not yet spoilt nor other results are touched.
func checkFreshSlopes(t *testing.T, what string, call func() (impl.Slopes, bool)) {
	t.Helper()
	first, ok := call()
	if !ok || len(first.Templates) == 0 {
		t.Fatal(what, first, ok)
	}
	kept := copySlopes(first)
	second, _ := call()
	spoilList(second.Sectors)
	for k, template := range second.Templates {
		if !slices.Equal(template, kept.Templates[k]) {
			t.Errorf("%s: template %d shares memory with another list of the result: %v", what, k, template)
		}
		spoilOffsets(template)
	}
	third, _ := call()
	if !sameSlopes(first, kept) || !sameSlopes(third, kept) {
		t.Errorf("%s: a changed result changes others: %v and %v, not %v", what, first, third, kept)
	}
	spoilSlopes(first)
	spoilSlopes(third)
}

// Promise 33: results are new memory, and no two lists of one result share it.
func TestSlopeResultsAreNew(t *testing.T) {
	for _, g := range []impl.Grid{{X: 1, Y: 1, Z: 1}, {X: 3, Y: 2, Z: 2}, {X: 8, Y: 5, Z: 3}} {
		for west := 1; west <= 4; west++ {
			checkFreshSlopes(t, "UniformSlopes", func() (impl.Slopes, bool) { return impl.UniformSlopes(g, west) })
			for east := 1; east <= 4; east++ {
				checkFreshSlopes(t, "HalfSlopes", func() (impl.Slopes, bool) { return impl.HalfSlopes(g, west, east) })
			}
			l, ok := impl.TemplateOf(west)
			spoilOffsets(l)
			if again, _ := impl.TemplateOf(west); !slices.Equal(again, standardByHand(west)) || !ok {
				t.Error("a changed result changes a later one", west, again)
			}
		}
		for k, s := range goodSlopes(g, 5) {
			kept, text := copySlopes(s), slopesTextByHand(s)
			checkFreshSlopes(t, "ParseSlopes", func() (impl.Slopes, bool) { return impl.ParseSlopes(g, text) })
			checkFresh(t, "TopBlocks", func() []int { l, _ := impl.TopBlocks(g, s); return l })
			arcs, _ := impl.ArcsOf(g, s)
			checkApart(t, "ArcsOf", arcs, arcsByHand(g, s))
			if !sameSlopes(s, kept) {
				t.Fatal("a result shares memory with the slopes", k, s)
			}
		}
	}
}
