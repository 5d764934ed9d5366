import Derived.WalkSpells
import Derived.Deep.AppendLies
import Derived.Lib.BufferRead
import Derived.Laws.AppendOwnNone
import Derived.Lib.SlBytesConst
import Derived.Test.YtpbfokkocaemlaaGreatDoorZ0P
set_option linter.unusedVariables false
set_option maxRecDepth 100000
set_option maxHeartbeats 64000000
namespace Go.Proofs.YtpbfokkocaemlaaGreatDoor
open Go.RowKit
open Go renaming World → ak
open Go renaming Value → au
variable {U:Prop}
def bv(c:UInt8):au:=.int .u8 (c.toNat:Int)
def Fp(l:List UInt8):List au:=l.map bv
theorem Vo(l:List UInt8):(Fp l).length=l.length:=by simp[Fp]
theorem Jn(l m:List UInt8):Fp (l++m)=Fp l++Fp m:=by simp[Fp]
theorem aeh(l:List UInt8):∀u∈Fp l,u.oneCell'=true:=by intro u hu;obtain⟨_,_,rfl⟩:=aw6.1 hu;rfl
theorem aei{l:List UInt8}{j:Nat}{u:au}(h:(Fp l)[j]?=some u):j<l.length/\u=.int .u8 ((l.getD j 0).toNat:Int):=by
 have hj:j<l.length:=by have:=(awz.1 h).1;simpa[Fp] using this
 refine⟨hj,?_⟩;simp[Fp,hj]at h;simp[List.getD,hj,<-h,bv]
theorem Vp{l:List UInt8}{j:Nat}(h:j<l.length):(Fp l)[j]?=some (.int .u8 ((l.getD j 0).toNat:Int)):=by simp[Fp,h,bv,List.getD]
structure Bs(w:ak)(A:Option Addr)(n cap:Nat)(l:List UInt8):Prop where
 len:l.length=n
 le:n<=cap
 max:cap<=9223372036854775807
 nil:A=none->n=0/\cap=0
 rd:0<n->∃b off,A=some ⟨b,off,none⟩/\b<w.heap.size/\∀i,i<n->w.cell? ⟨b,off+i,none⟩=some (.int .u8 ((l.getD i 0).toNat:Int))
theorem aBd(h:U:=by
 injection hv with h1 h2 h3
 subst h1 h2 h3;exact⟨hl,awC _,ae,λ_=>⟨rfl,rfl⟩,λh0=>absurd h0 ae⟩):U:=h
theorem Bs.own{w:ak}{base cap n:Nat}{A:Option Addr}{l:List UInt8}(h:w.ownsRow base 5 1 (.slice A n cap) n (Fp l)):Bs w A n cap l:=by
 have hl:l.length=n:=by have:=h.1;simpa[Fp] using this
 rcases h.2 with⟨hv,hn⟩|⟨g,c,cur,hv,hg,hh,yK,hcm,hcs,htake⟩
 exact aBd;injection hv with h1 h2 h3
 subst h1 h3;refine⟨hl,yK,by simpa[maxLen] using hcm,aj,λh0=>⟨g,0,rfl,(awQ.1 hh).1,λi hi=>?_⟩⟩;have h4:=h.cellAt i ae;rw[aw3,h4,Vp ae]
theorem Bs.cells{w:ak}{A:Option Addr}{n cap:Nat}{l:List UInt8}(h:Bs w A n cap l):∀ad,A=some ad->∀j u,(Fp l)[j]?=some u->w.cell? (ad.add j)=some u:=by intro ad hA j u hu;obtain⟨hj,rfl⟩:=aei hu;have hn:=h.len;obtain⟨b,off,e,_,hc⟩:=h.rd ae;rw[hA]at e;obtain rfl:=axd e;rw[Addr.add_lit];exact hc j ae
theorem Bs.str{P:Program}{w:ak}{A:Option Addr}{n cap:Nat}{l:List UInt8}(h:Bs w A n cap l)(src dst e:TypeId)
  (hs:P.underlying src=some (.slice e)) (he:P.underlying e=some (.int .u8)) (hd:P.underlying dst=some .string):
  (convert src dst (.slice A n cap)).run P w=.ok ↑l w:=by
 have hn:=h.len
 cases A with
 | none=>
  obtain⟨h0,h1⟩:=h.nil rfl;have hl:l=[]:=axu ae;subst hl h0;exact Lib.run_convert_nil_bytes w src dst e cap hs he hd
 | some ad=>
  subst hn;refine run_convert_bytes_back w src dst e ad cap l hs he hd (λj hj=>?_);have:=h.cells ad rfl j (.int .u8 ((l.getD j 0).toNat:Int)) (Vp hj);simpa[List.getD,hj] using this
def from_(A:Option Addr)(cap k:Nat):Option Addr:=if cap=k then A else Option.map (λx=>{block:=x.block,off:=x.off+k}) A
theorem Py{w w':ak}{base:Nat}{e:TypeId}{size:Nat}{v:au}{n:Nat}{xs:List au}(h:w.ownsRow base e size v n xs)(hE:Ev w w'):w'.ownsRow base e size v n xs:=by
 refine⟨h.1,?_⟩;rcases h.2 with h2|⟨g,cap,cur,hv,hg,hh,r⟩
 exact Or.inl h2;exact Or.inr ⟨g,cap,cur,hv,hg,by rw[hE.block g (awQ.1 hh).1];exact hh,r⟩
end Go.Proofs.YtpbfokkocaemlaaGreatDoor
