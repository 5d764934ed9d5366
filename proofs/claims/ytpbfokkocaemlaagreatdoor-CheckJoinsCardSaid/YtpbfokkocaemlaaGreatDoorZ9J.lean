import Derived.Deep.Cut
import Derived.Test.YtpbfokkocaemlaaGreatDoorZ7J
set_option linter.unusedVariables false
set_option maxRecDepth 100000
set_option maxHeartbeats 64000000
namespace Go.Proofs.YtpbfokkocaemlaaGreatDoor
open Go.RowKit
open Go.Lib renaming hid → zq
open Go renaming World → ak
open Go renaming Value → au
open Go.Proofs.Tryz renaming prog → ax
variable {U:Prop}
open Go.Proofs.Tryz
theorem rZ{ρ:Operand->au}{o:Oper}{x:Operand}{A:Option Addr}{n cap:Nat}(k:Nat){c:Operand}(ho:o.op=.slice 24 x none (some c) none)(h:ρ x=.slice A n cap)(hc:ρ c=↑k)(hk:k<=cap)(w:ak):
  (execOp ρ o).run ax w=.ok (.value (.slice A k cap)) w:=by
 have h1:(k:Int)<=(cap:Int):=ae;have h2:(0:Int)<=(k:Int):=ae;have ht:Tryz.prog.underlying 24=some (.slice (Tryz.prog.elem 24)):=ah;have hs:(sizeOf (Tryz.prog.elem 24)).run ax w=.ok 2 w:=ah;unfold execOp;rw[ho];simp[h,hc,run_sliceAt_slice w 24 _ _ _ _ ht,run_slice_h w 24 A n cap ht .i64 (k:Int) h2 h1,hs,Result.andThen,sliced,Addr.add]
structure qN(g:Nat)(s:ByteArray)(k:Int)(w:ak):Prop where
 blk:w.heap[g]?=some (.cells #[.string s,↑k] 50 (0,0))
theorem qN.c0{g:Nat}{s:ByteArray}{k:Int}{w:ak}(h:qN g s k w):w.cell? ⟨g,0,none⟩=some (.string s):=by rw[Lib.cell_of_heap h.blk];rfl
theorem qN.c1{g:Nat}{s:ByteArray}{k:Int}{w:ak}(h:qN g s k w):w.cell? ⟨g,1,none⟩=some ↑k:=by rw[Lib.cell_of_heap h.blk];rfl
theorem qN.ev{g:Nat}{s:ByteArray}{k:Int}{w w':ak}(h:qN g s k w)(he:Ev w w'):qN g s k w':=
 ⟨by rw[he.block g (awu.1 h.blk).1];exact h.blk⟩
theorem qN.new(s:ByteArray)(k:Int)(w:ak):qN w.heap.size s k (w.alloc (.cells #[.string s,↑k] 50)):=⟨heap_alloc_new w _⟩
abbrev Is:=Sl 1 (λx:Int=>[↑x])
theorem qN.lt{g:Nat}{s:ByteArray}{k:Int}{w:ak}(h:qN g s k w):g<w.heap.size:=(awu.1 h.blk).1
theorem aA_(h:U:=by refine aF λa w c=>⟨(ay rfl),_,run_move _ rfl w,(c.was 0 rfl)⟩):U:=h
theorem azU(h:U:=by refine aF λa w c=>⟨(ay rfl),_,rZ k rfl ((c.new 0 33):a.eval (.tmp 33)=.slice ↑(b,off) n cap) ((c.new 1 34):a.eval (.tmp 34)=↑k) tJ w,rfl⟩):U:=h
theorem azL(h:U:=by
 refine aF λa w c=>⟨(ay rfl),.pointer ↑g,?_,rfl⟩
 have e4:a.eval (.tmp 4)=.pointer ↑g:=(c.was 4 rfl)
 generalize a.eval=ρ at e4|-;simp[execOp,e4,go_sem]):U:=h
theorem azq(h:U:=by
 refine aF λa w c=>⟨(ay rfl),.string xs,?_,rfl⟩
 have e36:a.eval (.tmp 36)=.pointer ↑g:=(c.new 3 36)
 have hc:=(c.ev.cell (p:=⟨_,_,none⟩) B1.lt).trans B1.c0;generalize a.eval=ρ at e36|-;simp[execOp,e36,hc,go_sem]):U:=h
theorem ayI(h:U:=by
 refine gu λa w c=>⟨(ay rfl),16,#[.slice ↑(b,off) k cap,.string xs],?_,?_⟩
 rw[bC 16 _ _ rfl ah];have e35:a.eval (.tmp 35)=.slice ↑(b,off) k cap:=(c.new 2 35)
 have e37:a.eval (.tmp 37)=.string xs:=(c.new 4 37)
 simp[e35,e37];refine(HD w (aK.trans c.ev)).mono ?_;rintro e w2 ⟨rfl,hE⟩;exact⟨_,rfl,hE,rfl⟩):U:=h
theorem aAe(h:U:=by
 have e32:a.eval (.tmp 32)=.tuple #[↑fo,.bool false]:=(c.new 6 32)
 generalize a.eval=ρ at e32|-;simp[execOp,e32,go_sem]):U:=h
theorem aAg(h:U:=by
 have e32:a.eval (.tmp 32)=.tuple #[↑fo,.bool true]:=(c.new 6 32)
 generalize a.eval=ρ at e32|-;simp[execOp,e32,go_sem]):U:=h
theorem ax4(h:U:=by
 have tJ:k<=cap:=ae
 cases tk
 ·have Vw:Hid (colsFrom [] l=colsFrom (l.take (k+1)) (l.drop (k+1))):=zq (by rw[hf];rfl);clear hf
  go_wp2_with (first|(rw[<-hw0];(with_reducible refine(HM.out _).mono ?_);rintro x w1 ⟨rfl,aK⟩;have B1:=B0.ev aK;have c0:=B1.c0;have c1:=B1.c1))
  obtain⟨g,hg⟩:∃g,g=wr.heap.size:=⟨_,rfl⟩
  rw[<-hg]at B1|-;refine dD fD [λv _=>v=.slice ↑(b,off) n cap,λv _=>v=↑k,λv _=>v=.slice ↑(b,off) k cap,λv _=>v=.pointer ↑g,λv _=>v=.string xs,λv _=>v=.tuple #[↑fo,.bool false],λv _=>v=.tuple #[↑fo,.bool false],λv _=>v=↑fo,λv _=>v=.bool false,λv _=>v=↑fo,λv _=>v=.bool false]
   43 rfl ah ⟨aB _,aB _,aB _,aB _,aB _,aB _,aB _,aB _,aB _,aB _,aB _,trivial⟩ ?_ ?_
  refine aC 0 ?_ (aC 1 ?_ (aC 2 ?_ (aC 3 ?_ (aC 4 ?_ (aC 5 ?_ (aC 6 ?_ (aC 7 ?_ (aC 8 ?_ (aC 9 ?_ (aC 10 ?_ (kM 11)))))))))));exact aA_;refine aF λa w c=>⟨(ay rfl),_,run_move _ rfl w,(c.was 3 rfl)⟩
  exact azU;exact azL;exact azq;exact ayI;refine aF λa w c=>⟨(ay rfl),_,run_move _ rfl w,(c.new 5 38)⟩
  refine aF λa w c=>⟨(ay rfl),↑fo,?_,rfl⟩
  exact aAe;refine aF λa w c=>⟨(ay rfl),.bool false,?_,rfl⟩
  exact aAe;refine aF λa w c=>⟨(ay rfl),_,run_assign _ rfl w,(c.new 7 39)⟩
  refine aF λa w c=>⟨(ay rfl),_,run_assign _ rfl w,(c.new 8 40)⟩
  intro s w4 nU hold hnew;have f0:s 0=.slice ↑(b,off) n cap:=hold 0;have f1:_=undef:=hold 1;have f3:s 3=↑k:=hold 3;have f4:s 4=.pointer ↑g:=hold 4;have f7:s 7=.slice ↑(b,off) n cap:=hold 7;have f8:s 8=↑n:=hold 8;have f9:s 9=.bool true:=hold 9;have f10:s 10=.bool false:=hold 10;have f11:s 11=.slice ↑(b,off) n cap:=hold 11;have f12:s 12=↑n:=hold 12;have f13:s 13=↑k:=hold 13;have f5:s 5=↑fo:=hnew 9 5;have f6:s 6=.bool false:=hnew 10 6;change Exit.then _ _ .normal ⟨_,_⟩ _;simp only[List.range,List.range.loop,List.map];simp only[f0,f1,f3,f4,f7,f8,f9,f10,f11,f12,f13,f5,f6];clear hold hnew;generalize s 2=u2,s 14=u14,s 15=u15,s 16=u16,s 17=u17,s 18=u18,s 19=u19,s 20=u20,s 21=u21,s 22=u22,s 23=u23,s 24=u24,s 25=u25,s 26=u26,s 27=u27,s 28=u28,s 29=u29,s 30=u30,s 31=u31,s 41=u41,s 42=u42;go_wp2;go_roundw
  case rel=>exact⟨k+1,ae,by go_num,Vw,((hE.trans aW).trans aK).trans nU⟩
  case measure=>simp[intOf];omega
 have Vw:Hid (colsFrom [] l=21):=zq (by rw[hf];rfl);clear hf
 go_wp2_with (first|(rw[<-hw0];(with_reducible refine(HM.out _).mono ?_);rintro x w1 ⟨rfl,aK⟩;have B1:=B0.ev aK;have c0:=B1.c0;have c1:=B1.c1))
 obtain⟨g,hg⟩:∃g,g=wr.heap.size:=⟨_,rfl⟩
 rw[<-hg]at B1|-;refine dD fD [λv _=>v=.slice ↑(b,off) n cap,λv _=>v=↑k,λv _=>v=.slice ↑(b,off) k cap,λv _=>v=.pointer ↑g,λv _=>v=.string xs,λv _=>v=.tuple #[↑fo,.bool true],λv _=>v=.tuple #[↑fo,.bool true],λv _=>v=↑fo,λv _=>v=.bool true,λv _=>v=↑fo,λv _=>v=.bool true]
  43 rfl ah ⟨aB _,aB _,aB _,aB _,aB _,aB _,aB _,aB _,aB _,aB _,aB _,trivial⟩ ?_ ?_
 refine aC 0 ?_ (aC 1 ?_ (aC 2 ?_ (aC 3 ?_ (aC 4 ?_ (aC 5 ?_ (aC 6 ?_ (aC 7 ?_ (aC 8 ?_ (aC 9 ?_ (aC 10 ?_ (kM 11)))))))))));exact aA_;refine aF λa w c=>⟨(ay rfl),_,run_move _ rfl w,(c.was 3 rfl)⟩
 exact azU;exact azL;exact azq;exact ayI;refine aF λa w c=>⟨(ay rfl),_,run_move _ rfl w,(c.new 5 38)⟩
 refine aF λa w c=>⟨(ay rfl),↑fo,?_,rfl⟩
 exact aAg;refine aF λa w c=>⟨(ay rfl),.bool true,?_,rfl⟩
 exact aAg;refine aF λa w c=>⟨(ay rfl),_,run_assign _ rfl w,(c.new 7 39)⟩
 refine aF λa w c=>⟨(ay rfl),_,run_assign _ rfl w,(c.new 8 40)⟩
 intro s w4 nU hold hnew;have f0:s 0=.slice ↑(b,off) n cap:=hold 0;have f1:_=undef:=hold 1;have f3:s 3=↑k:=hold 3;have f4:s 4=.pointer ↑g:=hold 4;have f7:s 7=.slice ↑(b,off) n cap:=hold 7;have f8:s 8=↑n:=hold 8;have f9:s 9=.bool true:=hold 9;have f10:s 10=.bool false:=hold 10;have f11:s 11=.slice ↑(b,off) n cap:=hold 11;have f12:s 12=↑n:=hold 12;have f13:s 13=↑k:=hold 13;have f5:s 5=↑fo:=hnew 9 5;have f6:s 6=.bool true:=hnew 10 6;change Exit.then _ _ .normal ⟨_,_⟩ _;simp only[List.range,List.range.loop,List.map];simp only[f0,f1,f3,f4,f7,f8,f9,f10,f11,f12,f13,f5,f6];clear hold hnew;go_wp2;go_ret;exact⟨by rw[HG.out,Vw.out];rfl,((hE.trans aW).trans aK).trans nU⟩):U:=h
theorem GX{A:Option Addr}{n cap:Nat}{l:List C}(w:ak)(h:Cs w A n cap l):
  Calls ax 15 #[.slice A n cap] w λe w'=>e=.returned (.int .i64 (y8 l))/\Ev w w':=by
 have hn:=h.le;have hm:=h.max;have HN:=zq h.len;have HC:=zq (λw1=>Si n w1 ae);have HG:Hid (y8 l=cond (decide (1<=n)&&decide (n<=6)) (colsFrom [] l) 23):=zq (by unfold y8;rw[HN.out];cases (decide (1<=n)&&decide (n<=6))<;>rfl);have fD:Tryz.prog.follows .mixedOrders=true:=ah;generalize (decide (1<=n)&&decide (n<=6))=c at*
 cases c
 ·replace HG:Hid (y8 l=23):=HG;go_enter func15,ntmps15
  go_wp2_with (first|((with_reducible refine(HC.out _).mono ?_);rintro x w1 ⟨rfl,rfl⟩))
  go_ret;exact⟨by rw[HG.out];rfl,Ev.refl _⟩
 replace HG:Hid (y8 l=colsFrom [] l):=HG;go_enter func15,ntmps15
 go_wp2_with (first|((with_reducible refine(HC.out _).mono ?_);rintro x w1 ⟨rfl,rfl⟩))
 go_loopw [13] (λi wr=>∃k:Nat,k<=n/\i=↑k/\Hid (colsFrom [] l=colsFrom (l.take k) (l.drop k))/\Ev w wr) (λi _=>n - (intOf i).toNat)
 case atStart=>exact⟨0,aww _,rfl,zq rfl,Ev.refl _⟩
 case round=>
  obtain⟨k,hk,rfl,HT,hE⟩:=hrel;by_cases hlt:k<n
  ·obtain⟨b,off,⟨xs,xk⟩,rfl,hb,hx,c0,c1⟩:=(h.ev hE).Z5 hlt;simp only at c0 c1;have HF:=zq (HT.out.trans (RX hx));clear hx;simp only at HF;obtain⟨w0,hw0⟩:∃w0,w0=wr.alloc (.cells #[.string xs,↑xk] 50):=⟨_,rfl⟩
   have B0:qN wr.heap.size xs xk w0:=hw0▸qN.new xs xk wr;have aW:Ev wr w0:=hw0▸Ev.alloc wr _;have HM:=λw1=>xW xs w1;generalize fK xs=nm at*
   cases nm
   ·have HM:=zq HM;replace HF:Hid (colsFrom [] l=20):=zq (by rw[HF.out];rfl)
    go_wp2_with (first|(rw[<-hw0];(with_reducible refine(HM.out _).mono ?_);rintro x w1 ⟨rfl,aK⟩))
    go_ret;exact⟨by rw[HG.out,HF.out];rfl,(hE.trans aW).trans aK⟩
   by_cases Ip:xk=1∨xk=2
   ·have hf:=HF.out;rw[if_neg (by rcases Ip with rfl|rfl<;>simp)]at hf;have h1:=(h.ev (hE.trans aW)).to k hk;have HD:=λw1 (aK:Ev w0 w1)=>pz xs w1 (h1.ev aK);obtain⟨fo,mG⟩:∃fo,foundAt (fM (l.take k) xs)=fo:=⟨_,rfl⟩
    obtain⟨tk,oV⟩:∃tk,(fM (l.take k) xs).isSome=tk:=⟨_,rfl⟩
    rw[mG,oV]at HD;rw[oV]at hf;have HM:=zq HM;clear mG oV h1;rcases Ip with rfl|rfl;exact ax4;exact ax4
   have n1:xk≠1:=λe=>Ip (.inl e);have n2:xk≠2:=λe=>Ip (.inr e);have m1:(xk !=1)=true:=axr.2 n1;have m2:(xk !=2)=true:=axr.2 n2;have HM:=zq HM;replace HF:Hid (colsFrom [] l=20):=zq (by rw[HF.out,if_pos (by simp[n1,n2])])
   go_wp2_with (first|(rw[<-hw0];(with_reducible refine(HM.out _).mono ?_);rintro x w1 ⟨rfl,aK⟩;have c1:=(B0.ev aK).c1))
   go_ret;exact⟨by rw[HG.out,HF.out];rfl,(hE.trans aW).trans aK⟩
  obtain rfl:k=n:=ae;have HF:Hid (colsFrom [] l=0):=zq (by rw[HT.out,List.drop_eq_nil_of_le (by rw[HN.out];exact awj _)];rfl);go_wp2;go_ret;exact⟨by rw[HG.out,HF.out];rfl,hE⟩
theorem flat_get{α:Type}{k:Nat}{enc:α->List au}(hk:∀x,(enc x).length=k):∀(l:List α) (i:Nat) (x:α),l[i]?=some x->∀j u,(enc x)[j]?=some u->(l.flatMap enc)[i*k+j]?=some u
 | [],_,_,h,_,_,_=>by simp at h
 | y::l,0,x,h,j,u,hu=>by simp at h;subst h;have hj:j<(enc y).length:=(awi.1 hu).1;rw[axv,awW,awL,axQ hj];exact hu
 | y::l,i+1,x,h,j,u,hu=>by
  have e:(i+1)*k+j - k=i*k+j:=by rw[axz,axn];omega
  rw[axv,axO (by rw[hk,axz];omega),hk,e];exact flat_get hk l i x (by simpa using h) j u hu
theorem Sl.made{α:Type}{k:Nat}{enc:α->List au}(hk:∀x,(enc x).length=k)(l:List α)(n:Nat)(hn:l.length=n)(hm:n<=1000)(w:ak)(cs:Array au)(T:TypeId)(hc:cs=(l.flatMap enc).toArray):
  Sl k enc (w.alloc (.cells cs T)) ↑w.heap.size n n l:=
 ⟨hn,awj _,ae,aj,λ_=>⟨w.heap.size,0,rfl,aj,λi x hx j u hu=>by
  rw[Lib.cell_of_heap (heap_alloc_new w _),hc,List.getElem?_toArray,awL];exact flat_get hk l i x hx j u hu⟩⟩
theorem Cs.made(l:List C)(n:Nat)(hn:l.length=n)(hm:n<=1000)(w:ak)(cs:Array au)(hc:cs=(l.flatMap dZ).toArray):Cs (w.alloc (.cells cs 50)) ↑w.heap.size n n l:=Sl.made (enc:=dZ) (λ_=>rfl) l n hn hm w cs _ hc
def ng:List C:=[(⟨#[97]⟩,1),(⟨#[98]⟩,1),(⟨#[115]⟩,2)]
theorem af9(w:ak):Calls ax 20 #[] w λe w'=>e=.returned (.slice ↑w.heap.size 3 3)/\Cs w' ↑w.heap.size 3 3 ng/\Ev w w':=by go_enter func20,ntmps20;go_wp2;go_ret;exact⟨rfl,Cs.made ng 3 rfl ai w _ rfl,Ev.alloc _ _⟩
end Go.Proofs.YtpbfokkocaemlaaGreatDoor
