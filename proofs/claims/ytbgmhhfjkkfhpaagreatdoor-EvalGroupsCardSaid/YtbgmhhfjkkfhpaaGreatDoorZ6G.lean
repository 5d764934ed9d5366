import Derived.Test.YtbgmhhfjkkfhpaaGreatDoorProg
import Derived.BigQuiet
import Derived.Test.YtbgmhhfjkkfhpaaGreatDoorZ5G
set_option linter.unusedVariables false
set_option maxRecDepth 100000
set_option maxHeartbeats 64000000
namespace Go.Proofs.YtbgmhhfjkkfhpaaGreatDoor
open Go.RowKit
open Go renaming World → ak
open Go renaming Value → au
abbrev aFd:=@Go.heap_alloc_new
theorem Tryz.Fg:(Tryz.prog.info? 5).map (λi=>(i.zero,i.size,i.bytes))=some (some (.int .u8 0),1,1):=ah
def le:Nat->Nat->List UInt8
 | 0,_=>[]
 | k+1,n=>UInt8.ofNat n::le k (n / 256)
structure Wrote(p:Nat)(v:au)(w:ak)(v':au)(w':ak):Prop where
 but:But (p::foot v) w w'
 QA:dE w v v'
theorem Wrote.trans{p:Nat}{a b c:au}{w w1 w2:ak}(h:Wrote p a w b w1)(k:Wrote p b w1 c w2):Wrote p a w c w2:=
 ⟨h.but.trans k.but λx hx=>by
  rcases aDg.1 hx with rfl|hx;exact .inl aj;rcases h.QA x (aG.1 hx) with h1|h1;exact .inl (aDc _ (aG.2 h1));exact .inr h1,h.QA.trans k.QA h.but.size⟩
theorem Bs.made{w:ak}(l:List UInt8)(cs:Array au)(h:cs=(ES l).toArray)(hl:l.length<=1000):Bs (w.alloc (.cells cs 5)) ↑w l.length l.length l:=by subst h;refine⟨rfl,aC8 _,ae,aj,λ_=>⟨_,0,rfl,aj,λi hi=>?_⟩⟩;rw[cell_of_row _ _ _ (ES l).toArray 5 (0,0) (aFd w _)];rw[aDt,List.getElem?_toArray];exact Xa hi
theorem dE.old{w w1:ak}{v v':au}(h:dE w1 v v')(hs:w.heap.size<=w1.heap.size):dE w v v':=λg hg=>(h g hg).imp_right λh1=>by omega
def low(x:Int):Nat:=(x % 18446744073709551616).toNat
end Go.Proofs.YtbgmhhfjkkfhpaaGreatDoor
