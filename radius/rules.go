package radius

import "tollgate/api"

const (
	mostNumber = 255                       // what a number of one byte can say
	mostValue  = mostNumber - attrHeadSize // an attribute's count is of its head, too
)

func inForm(p *Packet) bool {
	switch p.Code {
	case Ask, Accept, Reject, Challenge:
		return 0 <= p.Id && p.Id <= mostNumber && attrsInForm(p.Attrs)
	}
	return false
}

func attrsInForm(l []Attr) bool {
	room := api.MaxPacket - headSize
	for _, a := range l {
		if a.Kind < 1 || a.Kind > mostNumber || len(a.Value) > mostValue {
			return false
		}
		room -= attrHeadSize + len(a.Value)
		if room < 0 {
			return false
		}
	}
	return true
}
