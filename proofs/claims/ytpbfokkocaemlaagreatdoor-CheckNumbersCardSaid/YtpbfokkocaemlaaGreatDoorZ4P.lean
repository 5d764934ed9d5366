import Derived.Test.YtpbfokkocaemlaaGreatDoorZ3P
set_option linter.unusedVariables false
set_option maxRecDepth 100000
set_option maxHeartbeats 64000000
namespace Go.Proofs.YtpbfokkocaemlaaGreatDoor
open Go.RowKit
open Go renaming World → ak
open Go renaming Value → au
open Go.Proofs.Tryz renaming prog → ax
open Go.Proofs.Tryz
variable {p:Nat} {A:Option Addr} {n cap:Nat} {L:List UInt8} {why pos:Nat} {w w':ak}
theorem fZ{b:Nat}{cs:Array au}{T:TypeId}(i:Nat)(x:au)(h:w.heap[b]?=some (.cells cs T (0,0))):(w.setCell ⟨b,i,none⟩ x).heap[b]?=some (.cells (cs.setIfInBounds i x) T (0,0)):=by simp only[World.setCell,Array.getElem?_modify,if_pos];rw[h];rfl
abbrev ayr:=@Go.bodyPost_ret
abbrev ays:=@Go.Lib.cell_of_heap
abbrev vv(k n:Int)(s:ByteArray):au:=.agg #[↑k,↑n,.string s]
def iL(k n:Int)(s:ByteArray):Bool:=if k=1 then s.toList.isEmpty else if k=2 then n==0&&decide (s.size<=40) else false
theorem RY(k n:Int)(s:ByteArray)(w:ak):
  Calls ax 169 #[vv k n s] w λe w'=>e=.returned (.bool (iL k n s))/\Ev w w':=by
 by_cases h1:k=1
 ·subst h1;go_enter func169,ntmps169;go_wp2;go_ret;exact⟨by simp[iL],Ev.alloc _ _⟩
 by_cases h2:k=2
 ·subst h2;by_cases h3:n=0
  ·go_enter func169,ntmps169;go_wp2;go_ret;exact⟨by simp[iL,h3,show ((s.size:Int)<=40↔s.size<=40) by omega],Ev.alloc _ _⟩
  go_enter func169,ntmps169;go_wp2;go_ret;exact⟨by simp[iL,h3],Ev.alloc _ _⟩
 go_enter func169,ntmps169;go_wp2;go_ret;exact⟨by simp[iL,h1,h2],Ev.alloc _ _⟩
theorem Tryz.aej:(Tryz.prog.info? 200).map (·.size)=some 3:=ah
theorem XB{fn:Func}{q:Tmp}(h:fn.results=#[.cell q 200])(tmps:Array au)(w:ak)(g:Nat)(k n:Int)(s:ByteArray)
  (hp:tmps.getD q undef=.pointer ↑g) (hg:w.heap[g]?=some (.cells #[↑k,↑n,.string s] 200 (0,0))):
  (results fn tmps).run ax w=.ok (vv k n s) w:=
 results_cell_row h tmps w g 200 _ _ _ hp hg underlying200 rfl Tryz.aej
theorem value_num(n:Int)(w:ak):
  Calls ax 140 #[↑n] w λe w'=>e=.returned (vv 1 n ⟨#[]⟩)/\Ev w w':=by
 go_enter func140,ntmps140;go_wp2;refine ayr (XB rfl _ _ w.heap.size 1 n ⟨#[]⟩ rfl (ayq w _)) rfl ?_;exact⟨rfl,Ev.alloc _ _⟩
theorem YG(s:ByteArray)(w:ak):
  Calls ax 141 #[.string s] w λe w'=>e=.returned (vv 2 0 s)/\Ev w w':=by
 go_enter func141,ntmps141;go_wp2;refine ayr (XB rfl _ _ w.heap.size 2 0 s rfl (ayq w _)) rfl ?_;exact⟨rfl,Ev.alloc _ _⟩
structure Boxed(g:Nat)(k n:Int)(s:ByteArray)(w:ak):Prop where
 blk:w.heap[g]?=some (.cells #[↑k,↑n,.string s] 200 (0,0))
theorem Boxed.c0{g:Nat}{k n:Int}{s:ByteArray}{w:ak}(h:Boxed g k n s w):w.cell? ⟨g,0,none⟩=some ↑k:=by rw[ays h.blk];rfl
theorem Boxed.c1{g:Nat}{k n:Int}{s:ByteArray}{w:ak}(h:Boxed g k n s w):w.cell? ⟨g,1,none⟩=some ↑n:=by rw[ays h.blk];rfl
theorem Boxed.c2{g:Nat}{k n:Int}{s:ByteArray}{w:ak}(h:Boxed g k n s w):w.cell? ⟨g,2,none⟩=some (.string s):=by rw[ays h.blk];rfl
theorem Boxed.ev{g:Nat}{k n:Int}{s:ByteArray}{w w':ak}(h:Boxed g k n s w)(he:Ev w w'):Boxed g k n s w':=
 ⟨by rw[he.block g (awQ.1 h.blk).1];exact h.blk⟩
theorem Boxed.new(k n:Int)(s:ByteArray)(w:ak):Boxed w.heap.size k n s (w.alloc (.cells #[↑k,↑n,.string s] 200)):=⟨ayq w _⟩
variable {p:Nat} {A:Option Addr} {n cap:Nat} {L:List UInt8} {why pos at_ y z:Nat} {r:Bool} {w w':ak}
variable {p:Nat} {A:Option Addr} {n cap:Nat} {L:List UInt8} {why pos:Nat} {w w':ak}
variable {p:Nat} {A:Option Addr} {n cap:Nat} {L:List UInt8} {why pos:Nat} {w w':ak}
variable {p:Nat} {A:Option Addr} {n cap:Nat} {L:List UInt8} {why pos:Nat} {w w':ak}
end Go.Proofs.YtpbfokkocaemlaaGreatDoor
