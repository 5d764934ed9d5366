import Derived.Test.YtpbfokkocaemlaaGreatDoorZ3S
set_option linter.unusedVariables false
set_option maxRecDepth 100000
set_option maxHeartbeats 64000000
namespace Go.Proofs.YtpbfokkocaemlaaGreatDoor
open Go.RowKit
variable {p:Nat} {A:Option Addr} {n cap:Nat} {L:List UInt8} {why pos:Nat} {w w':World}
theorem fD {b:Nat} {cs:Array Value} {T:TypeId} (i:Nat) (x:Value) (h:w.heap[b]?=some (.cells cs T (0,0))):(w.setCell ⟨b,i,none⟩ x).heap[b]?=some (.cells (cs.setIfInBounds i x) T (0,0)):=by simp only[World.setCell,Array.getElem?_modify,if_pos];rw[h];rfl
abbrev vv (k n:Int) (s:ByteArray):Value:=.agg #[.int .i64 k,.int .i64 n,.string s]
def ik (k n:Int) (s:ByteArray):Bool:=if k=1 then s.toList.isEmpty else if k=2 then n==0&&decide (s.size≤40) else false
theorem P_ (k n:Int) (s:ByteArray) (w:World):
  Calls Tryz.prog 169 #[vv k n s] w fun e w'=>e=.returned (.bool (ik k n s))∧Ev w w':=by
 by_cases h1:k=1
 ·subst h1;go_enter Tryz.func169,Tryz.ntmps169;go_wp2;go_ret;exact⟨by simp[ik],Ev.alloc _ _⟩
 by_cases h2:k=2
 ·subst h2;by_cases h3:n=0
  ·go_enter Tryz.func169,Tryz.ntmps169;go_wp2;go_ret;exact⟨by simp[ik,h3,show ((s.size:Int)≤40↔s.size≤40) by omega],Ev.alloc _ _⟩
  go_enter Tryz.func169,Tryz.ntmps169;go_wp2;go_ret;exact⟨by simp[ik,h3],Ev.alloc _ _⟩
 go_enter Tryz.func169,Tryz.ntmps169;go_wp2;go_ret;exact⟨by simp[ik,h1,h2],Ev.alloc _ _⟩
theorem Tryz.abk:(Tryz.prog.info? 200).map (·.size)=some 3:=by kernel_rfl
theorem Vt {fn:Func} {q:Tmp} (h:fn.results=#[.cell q 200]) (tmps:Array Value) (w:World) (g:Nat) (k n:Int) (s:ByteArray)
  (hp:tmps.getD q undef=.pointer (some ⟨g,0,none⟩)) (hg:w.heap[g]?=some (.cells #[.int .i64 k,.int .i64 n,.string s] 200 (0,0))):
  (results fn tmps).run Tryz.prog w=.ok (vv k n s) w:=
 results_cell_row h tmps w g 200 _ _ _ hp hg Tryz.underlying200 rfl Tryz.abk
theorem value_num (n:Int) (w:World):
  Calls Tryz.prog 140 #[.int .i64 n] w fun e w'=>e=.returned (vv 1 n ⟨#[]⟩)∧Ev w w':=by
 go_enter Tryz.func140,Tryz.ntmps140;go_wp2;refine bodyPost_ret (Vt rfl _ _ w.heap.size 1 n ⟨#[]⟩ rfl (heap_alloc_new w _)) rfl ?_;exact⟨rfl,Ev.alloc _ _⟩
theorem Wn (s:ByteArray) (w:World):
  Calls Tryz.prog 141 #[.string s] w fun e w'=>e=.returned (vv 2 0 s)∧Ev w w':=by
 go_enter Tryz.func141,Tryz.ntmps141;go_wp2;refine bodyPost_ret (Vt rfl _ _ w.heap.size 2 0 s rfl (heap_alloc_new w _)) rfl ?_;exact⟨rfl,Ev.alloc _ _⟩
structure Boxed (g:Nat) (k n:Int) (s:ByteArray) (w:World):Prop where
 blk:w.heap[g]?=some (.cells #[.int .i64 k,.int .i64 n,.string s] 200 (0,0))
theorem Boxed.c0 {g:Nat} {k n:Int} {s:ByteArray} {w:World} (h:Boxed g k n s w):w.cell? ⟨g,0,none⟩=some (.int .i64 k):=by rw[Lib.cell_of_heap h.blk];rfl
theorem Boxed.c1 {g:Nat} {k n:Int} {s:ByteArray} {w:World} (h:Boxed g k n s w):w.cell? ⟨g,1,none⟩=some (.int .i64 n):=by rw[Lib.cell_of_heap h.blk];rfl
theorem Boxed.c2 {g:Nat} {k n:Int} {s:ByteArray} {w:World} (h:Boxed g k n s w):w.cell? ⟨g,2,none⟩=some (.string s):=by rw[Lib.cell_of_heap h.blk];rfl
theorem Boxed.ev {g:Nat} {k n:Int} {s:ByteArray} {w w':World} (h:Boxed g k n s w) (he:Ev w w'):Boxed g k n s w':=
 ⟨by rw[he.block g (atC.1 h.blk).1];exact h.blk⟩
theorem Boxed.new (k n:Int) (s:ByteArray) (w:World):Boxed w.heap.size k n s (w.alloc (.cells #[.int .i64 k,.int .i64 n,.string s] 200)):=⟨heap_alloc_new w _⟩
variable {p:Nat} {A:Option Addr} {n cap:Nat} {L:List UInt8} {why pos at_ y z:Nat} {r:Bool} {w w':World}
variable {p:Nat} {A:Option Addr} {n cap:Nat} {L:List UInt8} {why pos:Nat} {w w':World}
variable {p:Nat} {A:Option Addr} {n cap:Nat} {L:List UInt8} {why pos:Nat} {w w':World}
variable {p:Nat} {A:Option Addr} {n cap:Nat} {L:List UInt8} {why pos:Nat} {w w':World}
end Go.Proofs.YtpbfokkocaemlaaGreatDoor
