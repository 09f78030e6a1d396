package omf

import (
	"hansom/api"
	"hansom/fixup"
	"hansom/segs"
)

// Check tells what is wrong with a module first: ErrBig: too many of something; then of its segments, groups, what it gives, data, and where it begins: ErrIndex: an index of nothing; ErrForm: something that may not be, data behind its segment's end among it.
func Check(m api.Module) api.Errno {
	if big(m) {
		return api.ErrBig
	}
	for _, s := range m.Segs {
		if e := checkSegment(m, s); e != api.OK {
			return e
		}
	}
	if !all(m.Groups, func(g api.GrpDef) bool { return hasGroup(m, g) }) {
		return api.ErrIndex
	}
	if !all(m.Pubs, func(p api.Pub) bool { return hasOrNone(p.Group, len(m.Groups)) && hasOrNone(p.Seg, len(m.Segs)) }) {
		return api.ErrIndex
	}
	for _, d := range m.Datas {
		if e := checkData(m, d); e != api.OK {
			return e
		}
	}
	return checkStart(m)
}

// big tells whether there is more of something than there may be.
func big(m api.Module) bool {
	return max(len(m.Segs), len(m.Groups)) > api.MostSegs ||
		max(len(m.Exts), len(m.Pubs), len(m.Names)) > api.MostExts ||
		len(m.Datas) > api.MostDatas
}

func checkSegment(m api.Module, s api.SegDef) api.Errno {
	if !segs.May(s) {
		return api.ErrForm
	}
	if !all([]int{s.Name, s.Class, s.Overlay}, func(n int) bool { return hasOrNone(n, len(m.Names)) }) {
		return api.ErrIndex
	}
	return api.OK
}

// hasOrNone tells whether an index is one of so many, or 0, which tells that there is none.
func hasOrNone(n, many int) bool { return n == 0 || is(n, many) }

// hasGroup tells whether there are a group's name and all of its segments.
func hasGroup(m api.Module, g api.GrpDef) bool {
	return is(g.Name, len(m.Names)) && all(g.Segs, func(n int) bool { return is(n, len(m.Segs)) })
}

func checkData(m api.Module, d api.Data) api.Errno {
	if !is(d.Seg, len(m.Segs)) || !all(d.Fixups, func(f api.Fixup) bool { return hasBoth(m, f) }) {
		return api.ErrIndex
	}
	many := len(d.Bytes)
	if int(d.Off)+many > m.Segs[d.Seg-1].Len || !all(d.Fixups, func(f api.Fixup) bool { return fixup.May(f, many) }) {
		return api.ErrForm
	}
	return api.OK
}

// hasBoth tells whether there are a fixup's frame and its target.
func hasBoth(m api.Module, f api.Fixup) bool {
	return has(m, f.Frame, f.FrameN) && has(m, f.Target, f.N)
}

// has tells whether there is what is told by an index; what is told otherwise has none that could be of nothing.
func has(m api.Module, by, n int) bool {
	switch by {
	case api.BySeg:
		return is(n, len(m.Segs))
	case api.ByGroup:
		return is(n, len(m.Groups))
	case api.ByExt:
		return is(n, len(m.Exts))
	}
	return true
}

func checkStart(m api.Module) api.Errno {
	f := m.Start
	// Where nothing is told, the zero value tells nothing either: its indices aren't asked for.
	if m.Is && !hasBoth(m, f) {
		return api.ErrIndex
	}
	if m.Is && !mayStart(f) || !m.Is && f != (api.Fixup{}) {
		return api.ErrForm
	}
	return api.OK
}

// mayStart tells whether a program may begin there: what begins it stands in no data, so that nothing is here.
func mayStart(f api.Fixup) bool {
	if f.Loc != api.LocLow || f.At != 0 || f.Self || f.Frame == api.ByHere {
		return false
	}
	return fixup.May(f, api.MostData)
}
