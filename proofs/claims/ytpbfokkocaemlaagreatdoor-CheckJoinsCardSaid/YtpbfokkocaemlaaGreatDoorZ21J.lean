import Derived.Lib.SlicesCompact
import Derived.Test.YtpbfokkocaemlaaGreatDoorZ17J
set_option linter.unusedVariables false
set_option maxRecDepth 100000
set_option maxHeartbeats 64000000
namespace Go.Proofs.YtpbfokkocaemlaaGreatDoor
open Go.RowKit
open Go renaming World → ak
open Go renaming Value → au
def sc(x:By):List au:=[↑x]
abbrev Ss:=Sl 1 sc
theorem qH:Enc 1 sc:=⟨ae,λ_=>rfl,λx u hu=>by
 simp[sc]at hu;rw[hu];rfl⟩
theorem Tryz.I4:(Tryz.prog.info? 9).map (λi=>(i.zero,i.size,i.bytes))=some (some (.string ⟨#[]⟩),1,16):=ah
structure af6(w0:ak)(v:au)(ns:List By)(w:ak):Prop where
 own:Ow 9 1 sc w0.heap.size w v ns
 ev:Ev w0 w
theorem Ss.cell2{w:ak}{A:Option Addr}{n cap:Nat}{l:List By}(h:Ss w A n cap l){i:Nat}{x:By}(hx:l[i]?=some x):∃b off,A=some ⟨b,off,none⟩/\b<w.heap.size/\w.cell? ⟨b,off+i,none⟩=some ↑x:=by have hi:=(awi.1 hx).1;have hl:=h.len;obtain⟨b,off,e,hlt,hc⟩:=h.rd ae;have:=hc i x hx 0 _ rfl;rw[axY,awM]at this;exact⟨b,off,e,hlt,this⟩
end Go.Proofs.YtpbfokkocaemlaaGreatDoor
