package keys_test

import (
	"testing"

	"tollgate/keys"
	"tollgate/sample"
)

func known(t *testing.T, digits string) [32]byte {
	t.Helper()
	return [32]byte(sample.Bytes(t, digits))
}

// The secrets of RFC 8448: those of the first handshake, and the mark of the second one's first Client.
func TestKnownSecrets(t *testing.T) {
	early := keys.Early([32]byte{})
	is(t, "Early", early, known(t, "33ad0a1c607ec03b09e6cd9893680ce210adf300aa1f2660e1b22e10f170f92a"))
	handshake := keys.Handshake(early, known(t, "8bd4054fb55b9d63fdfbacf9f04b9f0d35e6d63f537563efd46272900f89492d"))
	is(t, "Handshake", handshake, known(t, "1dc826e93606aa6fdc0aadc12f741b01046aa6b99f691ed221a9f0ca043fbeac"))
	is(t, "Master", keys.Master(handshake), known(t, "18df06843d13a08bf2a449844c5f8a478001bc4d4c627984d5a41da8d0402919"))
	client := known(t, "b3eddb126e067f35a780b3abf45e2d8f3b1a950738f52e9600746a0e27a55a21")
	is(t, "Finish", keys.Finish(client, known(t, "9608102a0f1ccc6db6250b7b7e417b1a000eaada3daae4777a7686c9ff83df13")),
		known(t, "a8ec436d677634ae525ac1fcebe11a039ec17694fac6e98527b642f2edd5ce61"))
	psk := keys.Again(known(t, "7df235f2031d2a051287d02b0241b0bfdaf86cc856231f2d5aba46c434ec196c"), []byte{0, 0})
	is(t, "Again", psk, known(t, "4ecd0eb6ec3b4d87f5d6028f922ca4c5851a277fd41311c9e62d2c9492e1c4f3"))
	early = keys.Early(psk)
	is(t, "Early of a ticket's secret", early, known(t, "9b2188e9b2fc6d64d71dc329900e20bb41915000f678aa839cbb797cb7d8332c"))
	is(t, "Binder", keys.Binder(early, known(t, "63224b2e4573f2d3454ca84b9d009a04f6be9e05711a8396473aefa01e924a14")),
		known(t, "3add4fb2d8fdf822a0ca3cf7678ef5e88dae990141c5924d57bb6fa31b9e5f9d"))
}
