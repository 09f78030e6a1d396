package syms

import (
	"hansom/api"
)

// meaning is what a pass told of a name, if it told that; free: it may tell that again.
type meaning struct {
	told bool
	free bool
	v    api.Value
}

// symbol is a name that was told once, in whatever pass.
type symbol struct {
	text  string
	now   meaning
	ahead meaning
}

// got is what a name means. What may be told again means something only from the line on that tells it, so that what the pass ahead told last is not what it means at the beginning of this one.
func (n *symbol) got() (api.Value, bool) {
	switch {
	case n.now.told:
		return n.now.v, true
	case n.ahead.told && !n.ahead.free:
		return n.ahead.v, true
	}
	return api.Value{}, false
}

// other tells whether this pass has another meaning of a name than the one ahead.
func (n *symbol) other() bool {
	return n.now.told != n.ahead.told || !n.now.free && n.now.v != n.ahead.v
}

// find is a name that is known; nil: none such.
func (s *Syms) find(text string) *symbol {
	for i := range s.names {
		if s.names[i].text == text {
			return &s.names[i]
		}
	}
	return nil
}

// add makes a name known, of which nothing is told yet; nil: there is no room for it.
func (s *Syms) add(text string) *symbol {
	if len(s.names) >= api.MostSyms {
		return nil
	}
	s.names = append(s.names, symbol{text: text})
	return &s.names[len(s.names)-1]
}
