import Derived.Test.YtpbfokkocaemlaaGreatDoorZ22S
import Derived.Test.YtpbfokkocaemlaaGreatDoorZ18S
set_option linter.unusedVariables false
set_option maxRecDepth 100000
set_option maxHeartbeats 64000000
namespace Go.Proofs.YtpbfokkocaemlaaGreatDoor
open Go.RowKit
open Go.Lib renaming hid → zq
theorem GG (b:Nat) (p:Value) (w:World) (hbk:w.heap[b]?=some (.cells #[p,.slice none 0 0] 146 (0,0))):
  Calls Tryz.prog 99 #[.pointer (some ⟨b,0,none⟩)] w fun e w'=>e=.returned (.string ⟨#[]⟩)∧Ev w w':=by
 have mixed:Tryz.prog.follows .mixedOrders=true:=by kernel_rfl
 have hUS:∀(W:World) (q:Option Addr),(Builtin.unsafeString_ #[203,3] 9 #[.pointer q,.int .i64 0]).run Tryz.prog W=.ok (.string .empty) W:=fun W q=>Lib.run_unsafeString_none W _ _ _ q;have c1:w.drew.cell? ⟨b,1,none⟩=some (.slice none 0 0):=by have:w.drew.heap[b]?=some (.cells #[p,.slice none 0 0] 146 (0,0)):=hbk;rw[Lib.cell_of_heap this];rfl
 have hSD:(Builtin.unsafeSliceData_ #[93] 203 #[.slice none 0 0]).run Tryz.prog w.drew=.ok (.pointer none) w.drew:=rfl;go_enter Tryz.func99,Tryz.ntmps99;go_wp2
 go_region_o
 all_goals (go_wp2;go_ret;exact⟨rfl,Ev.drew _⟩)
theorem Xt (m:M) (hk:m.kind=0) (b:Nat) (w:World):
  Calls Tryz.prog 98 #[.pointer (some ⟨b,0,none⟩),.agg #[.int .i64 m.kind,.string ⟨m.s.toArray⟩,.int .i64 m.n,.slice m.A m.kids.length m.cap,.int .i64 (m.pos:Int)]] w fun e w'=>e=.returned (.tuple #[])∧Ev w w':=by
 rw[hk];go_enter Tryz.func98,Tryz.ntmps98;go_wp2;go_end0;exact⟨rfl,Ev.alloc _ _⟩
theorem Xu {w0:World} {b0:Nat} {m:M} (h:Lies b0 [] w0 m) (hk:m.kind=0) (hsz:m.t.size≤100000):
  Calls Tryz.prog 55 #[.agg #[.int .i64 m.kind,.string ⟨m.s.toArray⟩,.int .i64 m.n,.slice m.A m.kids.length m.cap,.int .i64 (m.pos:Int)]] w0 fun r w''=>r=.returned (.string ⟨#[]⟩)∧Ev w0 w'':=by
 have HE:=zq (fun wa (hE:Ev w0 wa)=>Nq m b0 wa (h.ev hE) hsz);have HW:=zq (fun b wa=>Xt m hk b wa);have HS:=zq (fun b wa (hb:Bx 146 b #[.pointer none,.slice none 0 0] wa)=>GG b (.pointer none) wa hb.blk);have hc1:=h.ms.le;have hc2:=h.ms.max;clear hk hsz;go_enter Tryz.func55,Tryz.ntmps55
 go_wp2_with (first
  | ((with_reducible refine (HE.out _ (Ev.alloc _ _)).mono ?_);rintro r w1 ⟨rfl,aH⟩;obtain⟨c0,c1,c2,c3,c4⟩:=Ec (TK (Ih w0 m) (aH.trans (Ev.alloc w1 (.cells #[.pointer none,.slice none 0 0] 146))));have B1:=Bx.new 146 #[.pointer none,.slice none 0 0] w1)
  | ((with_reducible refine (HW.out _ _).mono ?_);rintro r w2 ⟨rfl,bK⟩;replace B1:=B1.ev bK)
  | ((with_reducible refine (HS.out _ _ B1).mono ?_);rintro r w4 ⟨rfl,gI⟩))
 go_ret;exact⟨rfl,((((Ev.alloc _ _).trans aH).trans (Ev.alloc _ _)).trans bK).trans gI⟩
theorem Gf {w0:World} (hT:Tab w0) {b0:Nat} {m:M} (h:Lies b0 [] w0 m) (hsz:m.t.size≤100000) (hlen:(printS m.t).length≤1000000) (hne:printS m.t≠[]∨m.kind=0) (hfit:wJ m.t=true):
  Calls Tryz.prog 55 #[.agg #[.int .i64 m.kind,.string ⟨m.s.toArray⟩,.int .i64 m.n,.slice m.A m.kids.length m.cap,.int .i64 (m.pos:Int)]] w0 fun r w''=>r=.returned (.string ⟨(printS m.t).toArray⟩)∧Ev w0 w'':=by
 by_cases hk:m.kind=0;have hp:printS m.t=[]:=by rw[M.qO,hk];unfold printS;simp
 rw[hp];exact Xu h hk hsz;rcases hne with hne|hne;exact ZY hT h hlen hne hfit (fun w' hE=>Nq m b0 w' (h.ev hE) hsz);exact absurd hne hk
end Go.Proofs.YtpbfokkocaemlaaGreatDoor
