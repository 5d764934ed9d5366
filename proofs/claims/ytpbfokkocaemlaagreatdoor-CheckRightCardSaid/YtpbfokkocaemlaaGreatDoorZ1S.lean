import Derived.WalkSpells
import Derived.Deep.AppendLies
import Derived.Lib.BufferRead
import Derived.Laws.AppendOwnNone
import Derived.Lib.SlBytesConst
import Derived.Test.YtpbfokkocaemlaaGreatDoorZ0S
set_option linter.unusedVariables false
set_option maxRecDepth 100000
set_option maxHeartbeats 64000000
namespace Go.Proofs.YtpbfokkocaemlaaGreatDoor
open Go.RowKit
def bv (c:UInt8):Value:=.int .u8 (c.toNat:Int)
def DT (l:List UInt8):List Value:=l.map bv
theorem Tv (l:List UInt8):(DT l).length=l.length:=by simp[DT]
theorem Hw (l m:List UInt8):DT (l++m)=DT l++DT m:=by simp[DT]
theorem abh (l:List UInt8):∀u∈DT l,u.oneCell'=true:=by intro u hu;obtain⟨_,_,rfl⟩:=atV.1 hu;rfl
theorem abj {l:List UInt8} {j:Nat} {u:Value} (h:(DT l)[j]?=some u):j<l.length∧u=.int .u8 ((l.getD j 0).toNat:Int):=by
 have hj:j<l.length:=by have:=(atr.1 h).1;simpa[DT] using this
 refine⟨hj,?_⟩;simp[DT,hj]at h;simp[List.getD,hj,←h,bv]
theorem Tz {l:List UInt8} {j:Nat} (h:j<l.length):(DT l)[j]?=some (.int .u8 ((l.getD j 0).toNat:Int)):=by simp[DT,h,bv,List.getD]
structure Bs (w:World) (A:Option Addr) (n cap:Nat) (l:List UInt8):Prop where
 len:l.length=n
 le:n≤cap
 max:cap≤9223372036854775807
 nil:A=none→n=0∧cap=0
 rd:0<n→∃b off,A=some ⟨b,off,none⟩∧b<w.heap.size∧∀i,i<n→w.cell? ⟨b,off+i,none⟩=some (.int .u8 ((l.getD i 0).toNat:Int))
theorem axn {P:Prop} (h:P:=by
 injection hv with h1 h2 h3
 subst h1;subst h2;subst h3;exact⟨hl,att _,by omega,fun _=>⟨rfl,rfl⟩,fun h0=>absurd h0 (by omega)⟩):P:=h
theorem Bs.own {w:World} {base cap n:Nat} {A:Option Addr} {l:List UInt8} (h:w.ownsRow base 5 1 (.slice A n cap) n (DT l)):Bs w A n cap l:=by
 have hl:l.length=n:=by have:=h.1;simpa[DT] using this
 rcases h.2 with⟨hv,hn⟩|⟨g,c,cur,hv,hg,hh,yI,hcm,hcs,htake⟩
 exact axn;injection hv with h1 h2 h3
 subst h1;subst h3;refine⟨hl,yI,by simpa[maxLen] using hcm,(by simp),fun h0=>⟨g,0,rfl,(atC.1 hh).1,fun i hi=>?_⟩⟩;have h4:=h.cellAt i (by omega);rw[atT,h4,Tz (by omega)]
theorem Bs.cells {w:World} {A:Option Addr} {n cap:Nat} {l:List UInt8} (h:Bs w A n cap l):∀ad,A=some ad→∀j u,(DT l)[j]?=some u→w.cell? (ad.add j)=some u:=by intro ad hA j u hu;obtain⟨hj,rfl⟩:=abj hu;have hn:=h.len;obtain⟨b,off,e,_,hc⟩:=h.rd (by omega);rw[hA]at e;obtain rfl:=aui e;rw[Addr.add_lit];exact hc j (by omega)
theorem Bs.str {P:Program} {w:World} {A:Option Addr} {n cap:Nat} {l:List UInt8} (h:Bs w A n cap l) (src dst e:TypeId)
  (hs:P.underlying src=some (.slice e)) (he:P.underlying e=some (.int .u8)) (hd:P.underlying dst=some .string):
  (convert src dst (.slice A n cap)).run P w=.ok (.string ⟨l.toArray⟩) w:=by
 have hn:=h.len
 cases A with
 | none=>
  obtain⟨h0,h1⟩:=h.nil rfl;have hl:l=[]:=aup (by omega);subst hl;subst h0;exact Lib.run_convert_nil_bytes w src dst e cap hs he hd
 | some ad=>
  subst hn;refine run_convert_bytes_back w src dst e ad cap l hs he hd (fun j hj=>?_);have:=h.cells ad rfl j (.int .u8 ((l.getD j 0).toNat:Int)) (Tz hj);simpa[List.getD,hj] using this
def from_ (A:Option Addr) (cap k:Nat):Option Addr:=if cap=k then A else Option.map (fun x=>{block:=x.block,off:=x.off+k}) A
theorem NU {w w':World} {base:Nat} {e:TypeId} {size:Nat} {v:Value} {n:Nat} {xs:List Value} (h:w.ownsRow base e size v n xs) (hE:Ev w w'):w'.ownsRow base e size v n xs:=by
 refine⟨h.1,?_⟩;rcases h.2 with h2|⟨g,cap,cur,hv,hg,hh,r⟩
 exact Or.inl h2;exact Or.inr ⟨g,cap,cur,hv,hg,by rw[hE.block g (atC.1 hh).1];exact hh,r⟩
end Go.Proofs.YtpbfokkocaemlaaGreatDoor
