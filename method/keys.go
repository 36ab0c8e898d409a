package method

import (
	"tollgate/api"
	"tollgate/tls"
)

// What RFC 9190 names its keys by.
const (
	materialLabel = "EXPORTER_EAP_TLS_Key_Material"
	sessionLabel  = "EXPORTER_EAP_TLS_Method-Id"
	typeOfTls     = 0x0D
)

func keysOf(s *tls.Side) (Keys, bool) {
	var k Keys
	context := []byte{typeOfTls}
	material, e := s.Export(materialLabel, context, len(k.Msk)+len(k.Emsk))
	if e != api.OK {
		return Keys{}, false
	}
	session, e := s.Export(sessionLabel, context, len(k.Session)-len(context))
	if e != api.OK {
		return Keys{}, false
	}
	copy(k.Emsk[:], material[copy(k.Msk[:], material):])
	copy(k.Session[copy(k.Session[:], context):], session)
	return k, true
}
