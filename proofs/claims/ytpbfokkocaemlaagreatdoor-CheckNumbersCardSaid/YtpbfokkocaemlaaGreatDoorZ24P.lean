import Derived.Test.YtpbfokkocaemlaaGreatDoorZ21P
import Derived.Test.YtpbfokkocaemlaaGreatDoorZ17P
set_option linter.unusedVariables false
set_option maxRecDepth 100000
set_option maxHeartbeats 64000000
namespace Go.Proofs.YtpbfokkocaemlaaGreatDoor
open Go.RowKit
open Go.Lib renaming hid → zq
open Go renaming World → ak
open Go renaming Value → au
open Go.Proofs.Tryz renaming prog → ax
open Go.Proofs.Tryz
theorem IE(b:Nat)(p:au)(w:ak)(hbk:w.heap[b]?=some (.cells #[p,↑()] 146 (0,0))):
  Calls ax 99 #[.pointer ↑b] w λe w'=>e=.returned (.string ⟨#[]⟩)/\Ev w w':=by
 have mixed:Tryz.prog.follows .mixedOrders=true:=ah;have hUS:∀(W:ak) (q:Option Addr),(Builtin.unsafeString_ #[203,3] 9 #[.pointer q,.int .i64 0]).run ax W=.ok (.string .empty) W:=λW q=>Lib.run_unsafeString_none W _ _ _ q;have c1:w.drew.cell? ⟨b,1,none⟩=some ↑():=by have:w.drew.heap[b]?=some (.cells #[p,↑()] 146 (0,0)):=hbk;rw[ays this];rfl
 have hSD:(Builtin.unsafeSliceData_ #[93] 203 #[↑()]).run ax w.drew=.ok (.pointer none) w.drew:=rfl;go_enter func99,ntmps99;go_wp2
 go_region_o
 all_goals (go_wp2;go_ret;exact⟨rfl,Ev.drew _⟩)
theorem Zw(m:M)(hk:m.kind=0)(b:Nat)(w:ak):
  Calls ax 98 #[.pointer ↑b,.agg ↑m] w λe w'=>e=.returned (.tuple #[])/\Ev w w':=by
 rw[hk];go_enter func98,ntmps98;go_wp2;go_end0;exact⟨rfl,Ev.alloc _ _⟩
theorem Zx{w0:ak}{b0:Nat}{m:M}(h:Lies b0 [] w0 m)(hk:m.kind=0)(hsz:m.t.size<=100000):
  Calls ax 55 #[.agg ↑m] w0 λr w''=>r=.returned (.string ⟨#[]⟩)/\Ev w0 w'':=by
 have HE:=zq (λwa (hE:Ev w0 wa)=>OW m b0 wa (h.ev hE) hsz);have HW:=zq (λb wa=>Zw m hk b wa);have HS:=zq (λb wa (hb:Bx 146 b #[.pointer none,↑()] wa)=>IE b (.pointer none) wa hb.blk);have hc1:=h.ms.le;have hc2:=h.ms.max;clear hk hsz;go_enter func55,ntmps55
 go_wp2_with (first
  | ((with_reducible refine(HE.out _ aB).mono ?_);rintro r w1 ⟨rfl,aN⟩;obtain⟨c0,c1,c2,c3,c4⟩:=F8 (VB (JE w0 m) (aN.trans (Ev.alloc w1 (.cells #[.pointer none,↑()] 146))));have B1:=Bx.new 146 #[.pointer none,↑()] w1)
  | ((with_reducible refine(HW.out _ _).mono ?_);rintro r w2 ⟨rfl,bM⟩;replace B1:=B1.ev bM)
  | ((with_reducible refine(HS.out _ _ B1).mono ?_);rintro r w4 ⟨rfl,fG⟩))
 go_ret;exact⟨rfl,(((aB.trans aN).trans aB).trans bM).trans fG⟩
theorem Ie{w0:ak}(hT:Tab w0){b0:Nat}{m:M}(h:Lies b0 [] w0 m)(hsz:m.t.size<=100000)(hlen:(printS m.t).length<=1000000)(hne:printS m.t≠[]∨m.kind=0)(hfit:xX m.t=true):
  Calls ax 55 #[.agg ↑m] w0 λr w''=>r=.returned (.string ⟨(printS m.t).toArray⟩)/\Ev w0 w'':=by
 by_cases hk:m.kind=0;have hp:printS m.t=[]:=by rw[M.qR,hk];unfold printS;simp
 rw[hp];exact Zx h hk hsz;rcases hne with hne|hne;exact ack hT h hlen hne hfit (λw' hE=>OW m b0 w' (h.ev hE) hsz);exact absurd hne hk
end Go.Proofs.YtpbfokkocaemlaaGreatDoor
