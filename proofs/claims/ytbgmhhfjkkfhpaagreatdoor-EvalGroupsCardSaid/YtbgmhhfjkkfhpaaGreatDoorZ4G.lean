import Derived.WalkSpells
import Derived.Deep.AppendLies
import Derived.Lib.BufferRead
import Derived.Laws.AppendOwnNone
import Derived.Lib.SlBytesConst
import Derived.Test.YtbgmhhfjkkfhpaaGreatDoorZ2G
set_option linter.unusedVariables false
set_option maxRecDepth 100000
set_option maxHeartbeats 64000000
namespace Go.Proofs.YtbgmhhfjkkfhpaaGreatDoor
open Go.RowKit
open Go renaming World → ak
open Go renaming Value → au
variable {U:Prop}
abbrev aE9:=@Go.Addr.add_lit
def bv(c:UInt8):au:=.int .u8 (c.toNat:Int)
def ES(l:List UInt8):List au:=l.map bv
theorem W_(l:List UInt8):(ES l).length=l.length:=by simp[ES]
theorem JR(l m:List UInt8):ES (l++m)=ES l++ES m:=by simp[ES]
theorem agY(l:List UInt8):∀u∈ES l,u.oneCell'=true:=by intro u hu;obtain⟨_,_,rfl⟩:=aDz.1 hu;rfl
theorem agZ{l:List UInt8}{j:Nat}{u:au}(h:(ES l)[j]?=some u):j<l.length/\u=.int .u8 ((l.getD j 0).toNat:Int):=by
 have hj:j<l.length:=by have:=(aC6.1 h).1;simpa[ES] using this
 refine⟨hj,?_⟩;simp[ES,hj]at h;simp[List.getD,hj,<-h,bv]
theorem Xa{l:List UInt8}{j:Nat}(h:j<l.length):(ES l)[j]?=some (.int .u8 ((l.getD j 0).toNat:Int)):=by simp[ES,h,bv,List.getD]
structure Bs(w:ak)(A:Option Addr)(n cap:Nat)(l:List UInt8):Prop where
 len:l.length=n
 le:n<=cap
 max:cap<=9223372036854775807
 nil:A=none->n=0/\cap=0
 rd:0<n->∃b off,A=some ⟨b,off,none⟩/\b<w.heap.size/\∀i,i<n->w.cell? ⟨b,off+i,none⟩=some (.int .u8 ((l.getD i 0).toNat:Int))
theorem aHF(h:U:=by
 injection hv with h1 h2 h3
 subst h1 h2 h3;exact⟨hl,aC8 _,ae,λ_=>⟨rfl,rfl⟩,λh0=>absurd h0 ae⟩):U:=h
theorem Bs.own{w:ak}{base cap n:Nat}{A:Option Addr}{l:List UInt8}(h:w.ownsRow base 5 1 (.slice A n cap) n (ES l)):Bs w A n cap l:=by
 have hl:l.length=n:=by have:=h.1;simpa[ES] using this
 rcases h.2 with⟨hv,hn⟩|⟨g,c,cur,hv,hg,hh,AU,hcm,hcs,htake⟩
 exact aHF;injection hv with h1 h2 h3
 subst h1 h3;refine⟨hl,AU,by simpa[maxLen] using hcm,aj,λh0=>⟨g,0,rfl,(aDa.1 hh).1,λi hi=>?_⟩⟩;have h4:=h.cellAt i ae;rw[aDt,h4,Xa ae]
theorem Bs.cells{w:ak}{A:Option Addr}{n cap:Nat}{l:List UInt8}(h:Bs w A n cap l):∀ad,A=some ad->∀j u,(ES l)[j]?=some u->w.cell? (ad.add j)=some u:=by intro ad hA j u hu;obtain⟨hj,rfl⟩:=agZ hu;have hn:=h.len;obtain⟨b,off,e,_,hc⟩:=h.rd ae;rw[hA]at e;obtain rfl:=aDp e;rw[aE9];exact hc j ae
theorem Bs.str{P:Program}{w:ak}{A:Option Addr}{n cap:Nat}{l:List UInt8}(h:Bs w A n cap l)(src dst e:TypeId)
  (hs:P.underlying src=some (.slice e)) (he:P.underlying e=some (.int .u8)) (hd:P.underlying dst=some .string):
  (convert src dst (.slice A n cap)).run P w=.ok ↑l w:=by
 have hn:=h.len
 cases A with
 | none=>
  obtain⟨h0,h1⟩:=h.nil rfl;have hl:l=[]:=aDv ae;subst hl h0;exact Lib.run_convert_nil_bytes w src dst e cap hs he hd
 | some ad=>
  subst hn;refine run_convert_bytes_back w src dst e ad cap l hs he hd (λj hj=>?_);have:=h.cells ad rfl j (.int .u8 ((l.getD j 0).toNat:Int)) (Xa hj);simpa[List.getD,hj] using this
def from_(A:Option Addr)(cap k:Nat):Option Addr:=if cap=k then A else Option.map (λx=>{block:=x.block,off:=x.off+k}) A
theorem Qy{w w':ak}{base:Nat}{e:TypeId}{size:Nat}{v:au}{n:Nat}{xs:List au}(h:w.ownsRow base e size v n xs)(hE:Ev w w'):w'.ownsRow base e size v n xs:=by
 refine⟨h.1,?_⟩;rcases h.2 with h2|⟨g,cap,cur,hv,hg,hh,r⟩
 exact Or.inl h2;exact Or.inr ⟨g,cap,cur,hv,hg,by rw[hE.block g (aDa.1 hh).1];exact hh,r⟩
end Go.Proofs.YtbgmhhfjkkfhpaaGreatDoor
