import Derived.Test.YtpbfokkocaemlaaGreatDoorProg
import Derived.BigQuiet
import Derived.Test.YtpbfokkocaemlaaGreatDoorZ2S
set_option linter.unusedVariables false
set_option maxRecDepth 100000
set_option maxHeartbeats 64000000
namespace Go.Proofs.YtpbfokkocaemlaaGreatDoor
open Go.RowKit
theorem Tryz.D8:(Tryz.prog.info? 5).map (fun i=>(i.zero,i.size,i.bytes))=some (some (.int .u8 0),1,1):=by kernel_rfl
def le:Nat→Nat→List UInt8
 | 0,_=>[]
 | k+1,n=>UInt8.ofNat n::le k (n / 256)
structure Wrote (p:Nat) (v:Value) (w:World) (v':Value) (w':World):Prop where
 but:But (p::foot v) w w'
 NW:eX w v v'
theorem Wrote.trans {p:Nat} {a b c:Value} {w w1 w2:World} (h:Wrote p a w b w1) (k:Wrote p b w1 c w2):Wrote p a w c w2:=
 ⟨h.but.trans k.but fun x hx=>by
  rcases atA.1 hx with rfl|hx;exact .inl (by simp);rcases h.NW x (aB.1 hx) with h1|h1;exact .inl (aty _ (aB.2 h1));exact .inr h1,h.NW.trans k.NW h.but.size⟩
theorem Bs.made {w:World} (l:List UInt8) (cs:Array Value) (h:cs=(DT l).toArray) (hl:l.length≤1000):Bs (w.alloc (.cells cs 5)) (some ⟨w.heap.size,0,none⟩) l.length l.length l:=by subst h;refine⟨rfl,att _,by omega,by simp,fun _=>⟨_,0,rfl,by simp,fun i hi=>?_⟩⟩;rw[cell_of_row _ _ _ (DT l).toArray 5 (0,0) (heap_alloc_new w _)];rw[atT,List.getElem?_toArray];exact Tz hi
theorem eX.old {w w1:World} {v v':Value} (h:eX w1 v v') (hs:w.heap.size≤w1.heap.size):eX w v v':=fun g hg=>(h g hg).imp_right fun h1=>by omega
def low (x:Int):Nat:=(x % 18446744073709551616).toNat
end Go.Proofs.YtpbfokkocaemlaaGreatDoor
