import Derived.Test.YtbgmhhfjkkfhpaaGreatDoorZ28G
import Derived.Test.YtbgmhhfjkkfhpaaGreatDoorZ24G
set_option linter.unusedVariables false
set_option maxRecDepth 100000
set_option maxHeartbeats 64000000
namespace Go.Proofs.YtbgmhhfjkkfhpaaGreatDoor
open Go.RowKit
open Go.Lib renaming hid → zq
open Go renaming World → ak
open Go renaming Value → au
open Go.Proofs.Tryz renaming prog → ax
open Go.Proofs.Tryz
theorem I8(b:Nat)(p:au)(w:ak)(hbk:w.heap[b]?=some (.cells #[p,↑()] 244 (0,0))):
  Calls ax 174 #[.pointer ↑b] w λe w'=>e=.returned (.string ⟨#[]⟩)/\Ev w w':=by
 have mixed:Tryz.prog.follows .mixedOrders=true:=ah;have hUS:∀(W:ak) (q:Option Addr),(Builtin.unsafeString_ #[294,3] 9 #[.pointer q,.int .i64 0]).run ax W=.ok (.string .empty) W:=λW q=>Lib.run_unsafeString_none W _ _ _ q;have c1:w.drew.cell? ⟨b,1,none⟩=some ↑():=by have:w.drew.heap[b]?=some (.cells #[p,↑()] 244 (0,0)):=hbk;rw[aFf this];rfl
 have hSD:(Builtin.unsafeSliceData_ #[180] 294 #[↑()]).run ax w.drew=.ok (.pointer none) w.drew:=rfl;go_enter func174,ntmps174;go_wp2
 go_region_o
 all_goals (go_wp2;go_ret;exact⟨rfl,Ev.drew _⟩)
theorem abV(m:M)(hk:m.kind=0)(b:Nat)(w:ak):
  Calls ax 173 #[.pointer ↑b,.agg ↑m] w λe w'=>e=.returned (.tuple #[])/\Ev w w':=by
 rw[hk];go_enter func173,ntmps173;go_wp2;go_end0;exact⟨rfl,Ev.alloc _ _⟩
theorem abW{w0:ak}{b0:Nat}{m:M}(h:Lies b0 [] w0 m)(hk:m.kind=0)(hsz:m.t.size<=100000):
  Calls ax 120 #[.agg ↑m] w0 λr w''=>r=.returned (.string ⟨#[]⟩)/\Ev w0 w'':=by
 have HE:=zq (λwa (hE:Ev w0 wa)=>Qa m b0 wa (h.ev hE) hsz);have HW:=zq (λb wa=>abV m hk b wa);have HS:=zq (λb wa (hb:Bx 244 b #[.pointer none,↑()] wa)=>I8 b (.pointer none) wa hb.blk);have hc1:=h.ms.le;have hc2:=h.ms.max;clear hk hsz;go_enter func120,ntmps120
 go_wp2_with (first
  | ((with_reducible refine(HE.out _ aC).mono ?_);rintro r w1 ⟨rfl,aJ⟩;obtain⟨c0,c1,c2,c3,c4⟩:=FK (adO (KU w0 m) (aJ.trans (Ev.alloc w1 (.cells #[.pointer none,↑()] 244))));have B1:=Bx.new 244 #[.pointer none,↑()] w1)
  | ((with_reducible refine(HW.out _ _).mono ?_);rintro r w2 ⟨rfl,dJ⟩;replace B1:=B1.ev dJ)
  | ((with_reducible refine(HS.out _ _ B1).mono ?_);rintro r w4 ⟨rfl,gy⟩))
 go_ret;exact⟨rfl,(((aC.trans aJ).trans aC).trans dJ).trans gy⟩
theorem VH{w0:ak}(hT:Tab w0){b0:Nat}{m:M}(h:Lies b0 [] w0 m)(hsz:m.t.size<=100000)(hlen:(printS m.t).length<=1000000)(hne:printS m.t≠[]∨m.kind=0)(hfit:BC m.t=true):
  Calls ax 120 #[.agg ↑m] w0 λr w''=>r=.returned (.string ⟨(printS m.t).toArray⟩)/\Ev w0 w'':=by
 by_cases hk:m.kind=0;have hp:printS m.t=[]:=by rw[M.yE,hk];unfold printS;simp
 rw[hp];exact abW h hk hsz;rcases hne with hne|hne;exact ae6 hT h hlen hne hfit (λw' hE=>Qa m b0 w' (h.ev hE) hsz);exact absurd hne hk
end Go.Proofs.YtbgmhhfjkkfhpaaGreatDoor
