import Derived.Lib.SlicesCompact
import Derived.Test.YtpbfokkocaemlaaGreatDoorZ16P
set_option linter.unusedVariables false
set_option maxRecDepth 100000
set_option maxHeartbeats 64000000
namespace Go.Proofs.YtpbfokkocaemlaaGreatDoor
open Go.RowKit
open Go.Lib renaming hid → zq
open Go renaming World → ak
open Go renaming Value → au
open Go.Proofs.Tryz renaming prog → ax
open Go.Proofs.Tryz
def sc(x:By):List au:=[↑x]
abbrev Ss:=Sl 1 sc
theorem qY:Enc 1 sc:=⟨ae,λ_=>rfl,λx u hu=>by
 simp[sc]at hu;rw[hu];rfl⟩
theorem Tryz.I_:(Tryz.prog.info? 9).map (λi=>(i.zero,i.size,i.bytes))=some (some (.string ⟨#[]⟩),1,16):=ah
structure ahw(w0:ak)(v:au)(ns:List By)(w:ak):Prop where
 own:Ow 9 1 sc w0.heap.size w v ns
 ev:Ev w0 w
theorem Ss.cell2{w:ak}{A:Option Addr}{n cap:Nat}{l:List By}(h:Ss w A n cap l){i:Nat}{x:By}(hx:l[i]?=some x):∃b off,A=some ⟨b,off,none⟩/\b<w.heap.size/\w.cell? ⟨b,off+i,none⟩=some ↑x:=by have hi:=(awz.1 hx).1;have hl:=h.len;obtain⟨b,off,e,hlt,hc⟩:=h.rd ae;have:=hc i x hx 0 _ rfl;rw[ayj,aw2]at this;exact⟨b,off,e,hlt,this⟩
theorem DT{A B:Option Addr}{n cap m cap':Nat}{l:List By}(w:ak)(h:Ss w A n cap l)(h':Ss w B m cap' l):
  Calls ax 89 #[.slice A n cap,.slice B m cap'] w λe w'=>e=.returned (.bool true)/\Ev w w':=by
 have hn:=h.le;have hm:=h.max;have hn':=h'.le;have hm':=h'.max;obtain rfl:n=m:=h.len.symm.trans h'.len;go_enter func89,ntmps89;go_wp2
 go_loopw [5] (λi wr=>∃k:Nat,k<=n/\i=↑k/\Ev w wr) (λi _=>n-(intOf i).toNat)
 case atStart=>exact⟨0,awJ _,rfl,Ev.refl _⟩
 case round=>
  obtain⟨k,hk,rfl,hE⟩:=hrel;by_cases hlt:k<n
  ·obtain⟨x,hx⟩:=h.at hlt;obtain⟨b1,off,rfl,hb,c0⟩:=Ss.cell2 (h.ev hE) hx;obtain⟨b2,off',rfl,hb',d0⟩:=Ss.cell2 (h'.ev hE) hx;have i1:(0:Int)<=(k:Int):=ae;have i2:(k:Int)<(n:Int):=ae;have HE:=zq hE;clear hx h h' hE
   go_wp2_with fail
   go_quiet (fail)
   go_wp2;go_roundw
   case rel=>exact⟨k+1,ae,by go_num,HE.out.trans (Ev.drewN _ _)⟩
   case measure=>simp[intOf];omega
  obtain rfl:k=n:=ae;go_wp2;go_ret;exact⟨rfl,hE⟩
end Go.Proofs.YtpbfokkocaemlaaGreatDoor
