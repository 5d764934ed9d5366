import Derived.Lib.SlicesCompact
import Derived.Test.YtpbfokkocaemlaaGreatDoorZ17S
set_option linter.unusedVariables false
set_option maxRecDepth 100000
set_option maxHeartbeats 64000000
namespace Go.Proofs.YtpbfokkocaemlaaGreatDoor
open Go.RowKit
def sc (x:By):List Value:=[.string ⟨x.toArray⟩]
abbrev Ss:=Sl 1 sc
theorem pG:Enc 1 sc:=⟨by omega,fun _=>rfl,fun x u hu=>by
 simp[sc]at hu;rw[hu];rfl⟩
theorem Tryz.G9:(Tryz.prog.info? 9).map (fun i=>(i.zero,i.size,i.bytes))=some (some (.string ⟨#[]⟩),1,16):=by kernel_rfl
structure aej (w0:World) (v:Value) (ns:List By) (w:World):Prop where
 own:Ow 9 1 sc w0.heap.size w v ns
 ev:Ev w0 w
theorem Ss.cell2 {w:World} {A:Option Addr} {n cap:Nat} {l:List By} (h:Ss w A n cap l) {i:Nat} {x:By} (hx:l[i]?=some x):∃b off,A=some ⟨b,off,none⟩∧b<w.heap.size∧w.cell? ⟨b,off+i,none⟩=some (.string ⟨x.toArray⟩):=by have hi:=(atr.1 hx).1;have hl:=h.len;obtain⟨b,off,e,hlt,hc⟩:=h.rd (by omega);have:=hc i x hx 0 _ rfl;rw[avf,atW]at this;exact⟨b,off,e,hlt,this⟩
end Go.Proofs.YtpbfokkocaemlaaGreatDoor
