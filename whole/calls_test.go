// Package whole has the tests of what holds of all packages together. The program itself doesn't call it.
package whole_test

import (
	"go/ast"
	"go/parser"
	"go/token"
	"path/filepath"
	"strings"
	"testing"

	"tollgate/block"
	"tollgate/cert"
	"tollgate/curve"
	"tollgate/der"
	"tollgate/eap"
	"tollgate/gcm"
	"tollgate/hash"
	"tollgate/hello"
	"tollgate/keys"
	"tollgate/mac"
	"tollgate/method"
	"tollgate/mont"
	"tollgate/old"
	"tollgate/peer"
	"tollgate/piece"
	"tollgate/port"
	"tollgate/radius"
	"tollgate/record"
	"tollgate/script"
	"tollgate/server"
	"tollgate/sign"
	"tollgate/tls"
	"tollgate/trust"
	"tollgate/world"
	"tollgate/wrap"
)

// calls are all that the layers export, by name.
func calls() map[string]any {
	return map[string]any{
		"hash.New": hash.New, "hash.Of": hash.Of, "hash.State.Copy": (*hash.State).Copy, "hash.State.Put": (*hash.State).Put,
		"hash.State.Size": (*hash.State).Size, "hash.State.Sum": (*hash.State).Sum,
		"old.Hide": old.Hide, "old.Mac": old.Mac, "old.Of": old.Of, "old.Show": old.Show,
		"mac.Derive": mac.Derive, "mac.Expand": mac.Expand, "mac.Extract": mac.Extract, "mac.Label": mac.Label, "mac.Of": mac.Of, "mac.Same": mac.Same,
		"block.New": block.New, "block.Key.Open": (*block.Key).Open, "block.Key.Seal": (*block.Key).Seal,
		"gcm.Fold": gcm.Fold, "gcm.Product": gcm.Product, "gcm.New": gcm.New, "gcm.Box.Open": (*gcm.Box).Open, "gcm.Box.Seal": (*gcm.Box).Seal,
		"mont.New": mont.New, "mont.Mod.Add": (*mont.Mod).Add, "mont.Mod.Inv": (*mont.Mod).Inv, "mont.Mod.Mul": (*mont.Mod).Mul, "mont.Mod.Pow": (*mont.Mod).Pow,
		"mont.Mod.Rest": (*mont.Mod).Rest, "mont.Mod.Sub": (*mont.Mod).Sub, "mont.Of": mont.Of, "mont.Num.Bit": mont.Num.Bit, "mont.Num.Bytes": mont.Num.Bytes, "mont.Num.Less": mont.Num.Less,
		"curve.On": curve.On, "curve.Order": curve.Order, "curve.Public": curve.Public, "curve.Shared": curve.Shared, "curve.Write": curve.Write,
		"curve.Add": curve.Add, "curve.Base": curve.Base, "curve.Read": curve.Read, "curve.Times": curve.Times,
		"sign.Check": sign.Check, "sign.Make": sign.Make, "sign.Nonce": sign.Nonce,
		"der.ToBig": der.ToBig, "der.ToNum": der.ToNum, "der.ToWord": der.ToWord, "der.Write": der.Write, "der.Big": der.Big, "der.Num": der.Num,
		"der.Of": der.Of, "der.Read": der.Read, "der.Word": der.Word,
		"cert.Make": cert.Make, "cert.ReadSig": cert.ReadSig, "cert.Signed": cert.Signed, "cert.WriteSig": cert.WriteSig, "cert.Read": cert.Read,
		"trust.Check": trust.Check,
		"record.Bare": record.Bare, "record.Body": record.Body, "record.Cut": record.Cut, "record.New": record.New, "record.Half.Open": (*record.Half).Open,
		"record.Half.Seal": (*record.Half).Seal, "record.Half.Used": (*record.Half).Used,
		"hello.Short": hello.Short, "hello.Write": hello.Write, "hello.Read": hello.Read,
		"keys.Again": keys.Again, "keys.Binder": keys.Binder, "keys.Early": keys.Early, "keys.Export": keys.Export, "keys.Finish": keys.Finish,
		"keys.Handshake": keys.Handshake, "keys.Master": keys.Master, "keys.Retried": keys.Retried, "keys.Signed": keys.Signed,
		"tls.Dial": tls.Dial, "tls.Serve": tls.Serve, "tls.Side.Committed": (*tls.Side).Committed, "tls.Side.Done": (*tls.Side).Done, "tls.Side.Export": (*tls.Side).Export,
		"tls.Side.Failed": (*tls.Side).Failed, "tls.Side.Feed": (*tls.Side).Feed, "tls.Side.Peer": (*tls.Side).Peer, "tls.Side.Resumed": (*tls.Side).Resumed,
		"tls.Side.Saved": (*tls.Side).Saved, "tls.Side.Sum": (*tls.Side).Sum,
		"eap.Write": eap.Write, "eap.Read": eap.Read,
		"piece.Ack": piece.Ack, "piece.Split": piece.Split, "piece.Start": piece.Start, "piece.New": piece.New, "piece.Joiner.Take": (*piece.Joiner).Take, "piece.Joiner.Waits": (*piece.Joiner).Waits,
		"method.Peer": method.Peer, "method.Server": method.Server, "method.Method.Done": (*method.Method).Done, "method.Method.Failed": (*method.Method).Failed,
		"method.Method.Keys": (*method.Method).Keys, "method.Method.Other": (*method.Method).Other, "method.Method.Resumed": (*method.Method).Resumed,
		"method.Method.Saved": (*method.Method).Saved, "method.Method.Step": (*method.Method).Step, "method.Method.Waits": (*method.Method).Waits,
		"radius.Find": radius.Find, "radius.Join": radius.Join, "radius.Reply": radius.Reply, "radius.Seal": radius.Seal, "radius.Write": radius.Write,
		"radius.Split": radius.Split, "radius.Open": radius.Open, "radius.Opened": radius.Opened, "radius.Read": radius.Read,
		"wrap.Unwrap": wrap.Unwrap, "wrap.Wrap": wrap.Wrap,
		"peer.New": peer.New, "peer.Peer.Keys": (*peer.Peer).Keys, "peer.Peer.Other": (*peer.Peer).Other, "peer.Peer.Saved": (*peer.Peer).Saved,
		"peer.Peer.State": (*peer.Peer).State, "peer.Peer.Take": (*peer.Peer).Take, "peer.Peer.Tick": (*peer.Peer).Tick,
		"port.New": port.New, "port.Port.FromPeer": (*port.Port).FromPeer, "port.Port.FromServer": (*port.Port).FromServer, "port.Port.Keys": (*port.Port).Keys,
		"port.Port.Start": (*port.Port).Start, "port.Port.State": (*port.Port).State, "port.Port.Tick": (*port.Port).Tick,
		"server.New": server.New, "server.Server.Grants": (*server.Server).Grants, "server.Server.Kept": (*server.Server).Kept, "server.Server.Take": (*server.Server).Take,
		"server.Server.Talks": (*server.Server).Talks, "server.Server.Tick": (*server.Server).Tick,
		"world.New": world.New, "world.World.Again": (*world.World).Again, "world.World.Calm": (*world.World).Calm, "world.World.Do": (*world.World).Do,
		"world.World.Grants": (*world.World).Grants, "world.World.Look": (*world.World).Look, "world.World.PeerKeys": (*world.World).PeerKeys, "world.World.PortKeys": (*world.World).PortKeys,
		"script.Read": script.Read, "script.Run": script.Run, "script.Show": script.Show, "script.Write": script.Write,
	}
}

// layers are all packages that the document lists.
func layers() []string {
	return strings.Fields("hash old mac block gcm mont curve sign der cert trust record hello keys tls eap piece method radius wrap peer port server world script")
}

// No call is missing: the layers export just these.
func TestCallsAreAll(t *testing.T) {
	all := calls()
	found := 0
	for _, folder := range layers() {
		for _, name := range exported(t, folder) {
			if found++; all[name] == nil {
				t.Errorf("%s isn't called", name)
			}
		}
	}
	if found != len(all) {
		t.Errorf("%d calls are exported, not %d", found, len(all))
	}
}

// exported are the names of a package's calls.
func exported(t *testing.T, folder string) []string {
	t.Helper()
	paths, err := filepath.Glob(filepath.Join("..", folder, "*.go"))
	if err != nil {
		t.Fatal(err)
	}
	var names []string
	for _, path := range paths {
		if strings.HasSuffix(path, "_test.go") {
			continue
		}
		file, err := parser.ParseFile(token.NewFileSet(), path, nil, 0)
		if err != nil {
			t.Fatal(err)
		}
		for _, d := range file.Decls {
			if f, ok := d.(*ast.FuncDecl); ok {
				if name := nameOf(f); ast.IsExported(f.Name.Name) && ast.IsExported(name) {
					names = append(names, folder+"."+name)
				}
			}
		}
	}
	return names
}

// nameOf is that of a call, with its type ahead.
func nameOf(f *ast.FuncDecl) string {
	if f.Recv == nil {
		return f.Name.Name
	}
	of := f.Recv.List[0].Type
	if star, ok := of.(*ast.StarExpr); ok {
		of = star.X
	}
	if name, ok := of.(*ast.Ident); ok {
		return name.Name + "." + f.Name.Name
	}
	return ""
}
