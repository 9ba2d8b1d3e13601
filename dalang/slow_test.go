package dalang_test

import (
	"slices"
	"strconv"
	"strings"

	"kelir/api"
	"kelir/chest"
	"kelir/cue"
	"kelir/hide"
	"kelir/night"
	"kelir/stem"
)

// slow is a desk of which each thing is found from all entries, by what the chapter says.
type slow struct {
	s       api.DalangSuite
	entries []api.DalangEntry
}

// numbers returns those of all entries that stand.
func (d *slow) numbers() []int {
	stands := make([]bool, len(d.entries))
	for n, x := range d.entries {
		stands[n] = x.Kind != api.DalangUndo
		for m := n - 1; x.Kind == api.DalangUndo && m >= 0; m-- {
			if stands[m] {
				stands[m] = false
				break
			}
		}
	}
	var out []int
	for n, is := range stands {
		if is {
			out = append(out, n)
		}
	}
	return out
}

// standing returns all entries that stand and are of some kinds.
func (d *slow) standing(kinds ...api.DalangKind) []api.DalangEntry {
	var out []api.DalangEntry
	for _, n := range d.numbers() {
		if slices.Contains(kinds, d.entries[n].Kind) {
			out = append(out, d.entries[n])
		}
	}
	return out
}

func (d *slow) night() int {
	nights := 0
	for _, x := range d.standing(api.DalangWait) {
		nights += x.Numbers[0]
	}
	return nights
}

func (d *slow) plan() api.NightPlan {
	p := d.s.Plan
	for _, x := range d.standing(api.DalangBegin) {
		p.Begin = x.Numbers[0]
	}
	return p
}

// evenings returns all evenings, and as the last one what is going on.
func (d *slow) evenings() []api.CueEvening {
	out := []api.CueEvening{{}}
	for _, x := range d.standing(api.DalangCue, api.DalangKnock, api.DalangRest) {
		last := &out[len(out)-1]
		switch x.Kind {
		case api.DalangCue:
			last.Cues, last.Tunes = append(last.Cues, x.Numbers[0]), append(last.Tunes, x.Numbers[1])
		case api.DalangKnock:
			last.Cues, last.Tunes = append(last.Cues, x.Numbers[0]), append(last.Tunes, -1)
		default:
			out = append(out, api.CueEvening{})
		}
	}
	return out
}

// remains returns all versions that play what was noted on each evening.
func (d *slow) remains(evenings []api.CueEvening) []int {
	var out []int
	for n := range d.s.Book.Versions {
		remains := true
		for _, x := range evenings {
			plays, e := cue.Plays(d.s.Book, n, x.Cues)
			remains = remains && e == api.OK
			for i := range plays {
				remains = remains && (x.Tunes[i] == -1 || x.Tunes[i] == plays[i])
			}
		}
		if remains {
			out = append(out, n)
		}
	}
	return out
}

func (d *slow) atHome(figure int) bool {
	home := true
	for _, x := range d.standing(api.DalangLend, api.DalangBack) {
		if x.Numbers[0] == figure {
			home = x.Kind == api.DalangBack
		}
	}
	return home
}

func (d *slow) allAtHome(figures []int) bool {
	return !slices.ContainsFunc(figures, func(figure int) bool { return !d.atHome(figure) })
}

func (d *slow) figures() []int {
	var out []int
	for n := range d.s.Register.Hides {
		out = append(out, n)
	}
	return out
}

// packing returns that of the chest, if it is packed.
func (d *slow) packing() ([]int, bool) {
	last := entry(api.DalangUnpack)
	for _, x := range d.standing(api.DalangPack, api.DalangUnpack) {
		last = x
	}
	return last.Numbers, last.Kind == api.DalangPack
}

// goes reports whether an entry that is formed goes.
func (d *slow) goes(x api.DalangEntry) bool {
	n := x.Numbers
	_, packed := d.packing()
	figures := len(d.s.Play.Figures)
	switch x.Kind {
	case api.DalangWait:
		return n[0] > 0 && d.night()+n[0] <= 100
	case api.DalangBegin:
		p := d.plan()
		p.Begin = n[0]
		choices, e := night.Choices(p)
		return e == api.OK && len(choices) > 0
	case api.DalangCue:
		return n[1] < d.s.Book.Tunes && d.hears(n[0], n[1])
	case api.DalangKnock:
		return d.hears(n[0], -1)
	case api.DalangRest:
		all := d.evenings()
		return len(all) <= 4 && len(all[len(all)-1].Cues) > 0
	case api.DalangPlay:
		return n[0] < len(d.s.Play.Scenes) && !packed && d.plays(n[0])
	case api.DalangLend:
		return n[0] < figures && !packed && d.atHome(n[0])
	case api.DalangBack:
		return n[0] < figures && !d.atHome(n[0]) && d.found(n[0], n[1:])
	case api.DalangPack:
		return !packed && d.allAtHome(d.figures()) && d.right(n)
	case api.DalangUnpack:
		return packed
	}
	return len(d.numbers()) > 0
}

// hears reports whether some version remains with one cue more.
func (d *slow) hears(one, tune int) bool {
	all := d.evenings()
	last := &all[len(all)-1]
	last.Cues, last.Tunes = append(last.Cues, one), append(last.Tunes, tune)
	return one < d.s.Book.Cues && len(last.Cues) <= 8 && len(d.remains(all)) > 0
}

// plays reports whether a scene can be played with figures that are at home.
func (d *slow) plays(scene int) bool {
	x := d.s.Play.Scenes[scene]
	hands := x.Knocks / 2
	for _, figure := range x.Moved {
		hands += d.s.Play.Figures[figure].Hands
	}
	many, e := stem.Count(d.s.Play, scene)
	return e == api.OK && many > 0 && hands <= 2 && d.allAtHome(x.Moved) && d.allAtHome(x.Rest)
}

func (d *slow) found(figure int, readings []int) bool {
	fewest, e := hide.Fewest(d.s.Register, figure, readings)
	return e == api.OK && fewest <= d.s.Register.Mends
}

// right is what layer 8 says of a packing that is right.
func (d *slow) right(packing []int) bool {
	c := d.s.Chest
	if len(packing) != len(c.Figures) || slices.Max(packing) >= c.Depth {
		return false
	}
	sizes := make([]int, c.Depth)
	for n, layer := range packing {
		sizes[layer] += c.Figures[n].Size
		for m, below := range c.Figures {
			if layer < packing[m] && (below.Rank > c.Figures[n].Rank || below.Evening < c.Figures[n].Evening) {
				return false
			}
		}
	}
	for layer, size := range sizes {
		if size > c.Room || layer > 0 && size > 0 && sizes[layer-1] == 0 {
			return false
		}
	}
	return true
}

// enter makes an entry that is formed.
func (d *slow) enter(x api.DalangEntry) api.Errno {
	if len(d.entries) == 24 {
		return api.ErrLong
	}
	if !d.goes(x) {
		return api.ErrRule
	}
	d.entries = append(d.entries, x)
	return api.OK
}

// ask answers a question that has as many numbers as its kind has, none of them less than 0.
func (d *slow) ask(q api.DalangQuestion) ([]int, api.Errno) {
	all := d.evenings()
	before, now := all[:len(all)-1], all[len(all)-1]
	switch q.Kind {
	case api.DalangNight:
		return l(d.night()), api.OK
	case api.DalangProgramme:
		choices, _ := night.Choices(d.plan())
		return choices[0], api.OK
	case api.DalangEnds:
		y, e := night.Ends(d.plan())
		return l(y[0].Low, y[0].High, y[1].Low, y[1].High, y[2].Low, y[2].High), e
	case api.DalangRemains:
		return d.remains(all), api.OK
	case api.DalangAsk:
		if y, n, e := cue.Ask(d.s.Book, before, now); e == api.OK {
			return l(y, n), e
		}
		return nil, api.ErrNone
	case api.DalangNever:
		return cue.Never(d.s.Book, before, now, q.Numbers[0])
	case api.DalangHome:
		return slices.DeleteFunc(d.figures(), func(figure int) bool { return !d.atHome(figure) }), api.OK
	case api.DalangPlayed:
		var out []int
		for _, x := range d.standing(api.DalangPlay) {
			out = append(out, x.Numbers[0])
		}
		return out, api.OK
	case api.DalangCan:
		return d.can(q.Numbers[0])
	case api.DalangFirst:
		return stem.First(d.s.Play, q.Numbers[0])
	case api.DalangOut:
		return d.out(q.Numbers[0])
	case api.DalangBest:
		y, _, e := chest.Best(d.s.Chest)
		return y, e
	}
	return d.numbers(), api.OK
}

func (d *slow) can(scene int) ([]int, api.Errno) {
	if scene >= len(d.s.Play.Scenes) {
		return nil, api.ErrArg
	}
	if d.goes(entry(api.DalangPlay, scene)) {
		return l(1), api.OK
	}
	return l(0), api.OK
}

// out returns all figures that lie above a figure.
func (d *slow) out(figure int) ([]int, api.Errno) {
	if figure >= len(d.s.Play.Figures) {
		return nil, api.ErrArg
	}
	packing, packed := d.packing()
	if !packed {
		return nil, api.ErrRule
	}
	var out []int
	for n, layer := range packing {
		if layer < packing[figure] {
			out = append(out, n)
		}
	}
	return out, api.OK
}

// slowWord returns the word of a kind of entries, with how many numbers behind it.
func slowWord(k api.DalangKind) (string, int, int) {
	switch k {
	case api.DalangWait:
		return "wait", 1, 1
	case api.DalangBegin:
		return "begin", 1, 1
	case api.DalangCue:
		return "cue", 2, 2
	case api.DalangKnock:
		return "knock", 1, 1
	case api.DalangRest:
		return "rest", 0, 0
	case api.DalangPlay:
		return "play", 1, 1
	case api.DalangLend:
		return "lend", 1, 1
	case api.DalangBack:
		return "back", 2, 7
	case api.DalangPack:
		return "pack", 0, 6
	case api.DalangUnpack:
		return "unpack", 0, 0
	}
	return "undo", 0, 0
}

func slowLine(word string, numbers []int) string {
	out := []string{word}
	for _, n := range numbers {
		out = append(out, strconv.Itoa(n))
	}
	return strings.Join(out, " ")
}

func slowEntryLine(x api.DalangEntry) string {
	word, _, _ := slowWord(x.Kind)
	return slowLine(word, x.Numbers)
}

func slowQuestionLine(q api.DalangQuestion) string {
	words := strings.Fields("night programme ends remains ask never home played can first out best stands")
	return slowLine(words[q.Kind-1], q.Numbers)
}

func (d *slow) journal() string {
	out := ""
	for _, x := range d.entries {
		out += slowEntryLine(x) + "\n"
	}
	return out
}
