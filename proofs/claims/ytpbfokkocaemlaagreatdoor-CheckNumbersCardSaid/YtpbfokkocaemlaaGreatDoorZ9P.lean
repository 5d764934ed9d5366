import Derived.Deep.Cut
import Derived.Test.YtpbfokkocaemlaaGreatDoorZ7P
set_option linter.unusedVariables false
set_option maxRecDepth 100000
set_option maxHeartbeats 64000000
namespace Go.Proofs.YtpbfokkocaemlaaGreatDoor
open Go.RowKit
open Go.Lib renaming hid → zq
open Go renaming World → ak
open Go renaming Value → au
open Go.Proofs.Tryz renaming prog → ax
variable {U:Prop}
open Go.Proofs.Tryz
theorem lG{ρ:Operand->au}{o:Oper}{x:Operand}{A:Option Addr}{n cap:Nat}(k:Nat){c:Operand}(ho:o.op=.slice 24 x none (some c) none)(h:ρ x=.slice A n cap)(hc:ρ c=↑k)(hk:k<=cap)(w:ak):
  (execOp ρ o).run ax w=.ok (.value (.slice A k cap)) w:=by
 have h1:(k:Int)<=(cap:Int):=ae;have h2:(0:Int)<=(k:Int):=ae;have ht:Tryz.prog.underlying 24=some (.slice (Tryz.prog.elem 24)):=ah;have hs:(sizeOf (Tryz.prog.elem 24)).run ax w=.ok 2 w:=ah;unfold execOp;rw[ho];simp[h,hc,run_sliceAt_slice w 24 _ _ _ _ ht,run_slice_h w 24 A n cap ht .i64 (k:Int) h2 h1,hs,Result.andThen,sliced,Addr.add]
structure rF(g:Nat)(s:ByteArray)(k:Int)(w:ak):Prop where
 blk:w.heap[g]?=some (.cells #[.string s,↑k] 50 (0,0))
theorem rF.c0{g:Nat}{s:ByteArray}{k:Int}{w:ak}(h:rF g s k w):w.cell? ⟨g,0,none⟩=some (.string s):=by rw[ays h.blk];rfl
theorem rF.c1{g:Nat}{s:ByteArray}{k:Int}{w:ak}(h:rF g s k w):w.cell? ⟨g,1,none⟩=some ↑k:=by rw[ays h.blk];rfl
theorem rF.ev{g:Nat}{s:ByteArray}{k:Int}{w w':ak}(h:rF g s k w)(he:Ev w w'):rF g s k w':=
 ⟨by rw[he.block g (awQ.1 h.blk).1];exact h.blk⟩
theorem rF.new(s:ByteArray)(k:Int)(w:ak):rF w.heap.size s k (w.alloc (.cells #[.string s,↑k] 50)):=⟨ayq w _⟩
abbrev Is:=Sl 1 (λx:Int=>[↑x])
theorem rF.lt{g:Nat}{s:ByteArray}{k:Int}{w:ak}(h:rF g s k w):g<w.heap.size:=(awQ.1 h.blk).1
theorem aCo(h:U:=by refine aF λa w c=>⟨(ay rfl),_,run_move _ rfl w,(c.was 0 rfl)⟩):U:=h
theorem aAO(h:U:=by refine aF λa w c=>⟨(ay rfl),_,lG k rfl ((c.new 0 33):a.eval (.tmp 33)=.slice ↑(b,off) n cap) ((c.new 1 34):a.eval (.tmp 34)=↑k) qM w,rfl⟩):U:=h
theorem aAE(h:U:=by
 refine aF λa w c=>⟨(ay rfl),.pointer ↑g,?_,rfl⟩
 have e4:a.eval (.tmp 4)=.pointer ↑g:=(c.was 4 rfl)
 generalize a.eval=ρ at e4|-;simp[execOp,e4,go_sem]):U:=h
theorem aAb(h:U:=by
 refine aF λa w c=>⟨(ay rfl),.string xs,?_,rfl⟩
 have e36:a.eval (.tmp 36)=.pointer ↑g:=(c.new 3 36)
 have hc:=(c.ev.cell (p:=⟨_,_,none⟩) B1.lt).trans B1.c0;generalize a.eval=ρ at e36|-;simp[execOp,e36,hc,go_sem]):U:=h
theorem azj(h:U:=by
 refine ig λa w c=>⟨(ay rfl),16,#[.slice ↑(b,off) k cap,.string xs],?_,?_⟩
 rw[bT 16 _ _ rfl ah];have e35:a.eval (.tmp 35)=.slice ↑(b,off) k cap:=(c.new 2 35)
 have e37:a.eval (.tmp 37)=.string xs:=(c.new 4 37)
 simp[e35,e37];refine(HD w (aN.trans c.ev)).mono ?_;rintro e w2 ⟨rfl,hE⟩;exact⟨_,rfl,hE,rfl⟩):U:=h
theorem aA9(h:U:=by
 have e32:a.eval (.tmp 32)=.tuple #[↑fo,.bool false]:=(c.new 6 32)
 generalize a.eval=ρ at e32|-;simp[execOp,e32,go_sem]):U:=h
theorem aBa(h:U:=by
 have e32:a.eval (.tmp 32)=.tuple #[↑fo,.bool true]:=(c.new 6 32)
 generalize a.eval=ρ at e32|-;simp[execOp,e32,go_sem]):U:=h
theorem ayz(h:U:=by
 have qM:k<=cap:=ae
 cases tk
 ·have JZ:Hid (colsFrom [] l=colsFrom (l.take (k+1)) (l.drop (k+1))):=zq (by rw[hf];rfl);clear hf
  go_wp2_with (first|(rw[<-hw0];(with_reducible refine(HM.out _).mono ?_);rintro x w1 ⟨rfl,aN⟩;have B1:=B0.ev aN;have c0:=B1.c0;have c1:=B1.c1))
  obtain⟨g,hg⟩:∃g,g=wr.heap.size:=⟨_,rfl⟩
  rw[<-hg]at B1|-;refine bV ed [λv _=>v=.slice ↑(b,off) n cap,λv _=>v=↑k,λv _=>v=.slice ↑(b,off) k cap,λv _=>v=.pointer ↑g,λv _=>v=.string xs,λv _=>v=.tuple #[↑fo,.bool false],λv _=>v=.tuple #[↑fo,.bool false],λv _=>v=↑fo,λv _=>v=.bool false,λv _=>v=↑fo,λv _=>v=.bool false]
   43 rfl ah ⟨az _,az _,az _,az _,az _,az _,az _,az _,az _,az _,az _,trivial⟩ ?_ ?_
  refine aC 0 ?_ (aC 1 ?_ (aC 2 ?_ (aC 3 ?_ (aC 4 ?_ (aC 5 ?_ (aC 6 ?_ (aC 7 ?_ (aC 8 ?_ (aC 9 ?_ (aC 10 ?_ (iT 11)))))))))));exact aCo;refine aF λa w c=>⟨(ay rfl),_,run_move _ rfl w,(c.was 3 rfl)⟩
  exact aAO;exact aAE;exact aAb;exact azj;refine aF λa w c=>⟨(ay rfl),_,run_move _ rfl w,(c.new 5 38)⟩
  refine aF λa w c=>⟨(ay rfl),↑fo,?_,rfl⟩
  exact aA9;refine aF λa w c=>⟨(ay rfl),.bool false,?_,rfl⟩
  exact aA9;refine aF λa w c=>⟨(ay rfl),_,run_assign _ rfl w,(c.new 7 39)⟩
  refine aF λa w c=>⟨(ay rfl),_,run_assign _ rfl w,(c.new 8 40)⟩
  intro s w4 Bg hold hnew;have f0:s 0=.slice ↑(b,off) n cap:=hold 0;have f1:_=undef:=hold 1;have f3:s 3=↑k:=hold 3;have f4:s 4=.pointer ↑g:=hold 4;have f7:s 7=.slice ↑(b,off) n cap:=hold 7;have f8:s 8=↑n:=hold 8;have f9:s 9=.bool true:=hold 9;have f10:s 10=.bool false:=hold 10;have f11:s 11=.slice ↑(b,off) n cap:=hold 11;have f12:s 12=↑n:=hold 12;have f13:s 13=↑k:=hold 13;have f5:s 5=↑fo:=hnew 9 5;have f6:s 6=.bool false:=hnew 10 6;change Exit.then _ _ .normal ⟨_,_⟩ _;simp only[List.range,List.range.loop,List.map];simp only[f0,f1,f3,f4,f7,f8,f9,f10,f11,f12,f13,f5,f6];clear hold hnew;generalize s 2=u2,s 14=u14,s 15=u15,s 16=u16,s 17=u17,s 18=u18,s 19=u19,s 20=u20,s 21=u21,s 22=u22,s 23=u23,s 24=u24,s 25=u25,s 26=u26,s 27=u27,s 28=u28,s 29=u29,s 30=u30,s 31=u31,s 41=u41,s 42=u42;go_wp2;go_roundw
  case rel=>exact⟨k+1,ae,by go_num,JZ,((hE.trans aV).trans aN).trans Bg⟩
  case measure=>simp[intOf];omega
 have JZ:Hid (colsFrom [] l=21):=zq (by rw[hf];rfl);clear hf
 go_wp2_with (first|(rw[<-hw0];(with_reducible refine(HM.out _).mono ?_);rintro x w1 ⟨rfl,aN⟩;have B1:=B0.ev aN;have c0:=B1.c0;have c1:=B1.c1))
 obtain⟨g,hg⟩:∃g,g=wr.heap.size:=⟨_,rfl⟩
 rw[<-hg]at B1|-;refine bV ed [λv _=>v=.slice ↑(b,off) n cap,λv _=>v=↑k,λv _=>v=.slice ↑(b,off) k cap,λv _=>v=.pointer ↑g,λv _=>v=.string xs,λv _=>v=.tuple #[↑fo,.bool true],λv _=>v=.tuple #[↑fo,.bool true],λv _=>v=↑fo,λv _=>v=.bool true,λv _=>v=↑fo,λv _=>v=.bool true]
  43 rfl ah ⟨az _,az _,az _,az _,az _,az _,az _,az _,az _,az _,az _,trivial⟩ ?_ ?_
 refine aC 0 ?_ (aC 1 ?_ (aC 2 ?_ (aC 3 ?_ (aC 4 ?_ (aC 5 ?_ (aC 6 ?_ (aC 7 ?_ (aC 8 ?_ (aC 9 ?_ (aC 10 ?_ (iT 11)))))))))));exact aCo;refine aF λa w c=>⟨(ay rfl),_,run_move _ rfl w,(c.was 3 rfl)⟩
 exact aAO;exact aAE;exact aAb;exact azj;refine aF λa w c=>⟨(ay rfl),_,run_move _ rfl w,(c.new 5 38)⟩
 refine aF λa w c=>⟨(ay rfl),↑fo,?_,rfl⟩
 exact aBa;refine aF λa w c=>⟨(ay rfl),.bool true,?_,rfl⟩
 exact aBa;refine aF λa w c=>⟨(ay rfl),_,run_assign _ rfl w,(c.new 7 39)⟩
 refine aF λa w c=>⟨(ay rfl),_,run_assign _ rfl w,(c.new 8 40)⟩
 intro s w4 Bg hold hnew;have f0:s 0=.slice ↑(b,off) n cap:=hold 0;have f1:_=undef:=hold 1;have f3:s 3=↑k:=hold 3;have f4:s 4=.pointer ↑g:=hold 4;have f7:s 7=.slice ↑(b,off) n cap:=hold 7;have f8:s 8=↑n:=hold 8;have f9:s 9=.bool true:=hold 9;have f10:s 10=.bool false:=hold 10;have f11:s 11=.slice ↑(b,off) n cap:=hold 11;have f12:s 12=↑n:=hold 12;have f13:s 13=↑k:=hold 13;have f5:s 5=↑fo:=hnew 9 5;have f6:s 6=.bool true:=hnew 10 6;change Exit.then _ _ .normal ⟨_,_⟩ _;simp only[List.range,List.range.loop,List.map];simp only[f0,f1,f3,f4,f7,f8,f9,f10,f11,f12,f13,f5,f6];clear hold hnew;go_wp2;go_ret;exact⟨by rw[HG.out,JZ.out];rfl,((hE.trans aV).trans aN).trans Bg⟩):U:=h
theorem sU{A:Option Addr}{n cap:Nat}{l:List C}(w:ak)(h:Cs w A n cap l):
  Calls ax 15 #[.slice A n cap] w λe w'=>e=.returned (.int .i64 (qh l))/\Ev w w':=by
 have hn:=h.le;have hm:=h.max;have HN:=zq h.len;have HC:=zq (λw1=>SN n w1 ae);have HG:Hid (qh l=cond (decide (1<=n)&&decide (n<=6)) (colsFrom [] l) 23):=zq (by unfold qh;rw[HN.out];cases (decide (1<=n)&&decide (n<=6))<;>rfl);have ed:Tryz.prog.follows .mixedOrders=true:=ah;generalize (decide (1<=n)&&decide (n<=6))=c at*
 cases c
 ·replace HG:Hid (qh l=23):=HG;go_enter func15,ntmps15
  go_wp2_with (first|((with_reducible refine(HC.out _).mono ?_);rintro x w1 ⟨rfl,rfl⟩))
  go_ret;exact⟨by rw[HG.out];rfl,Ev.refl _⟩
 replace HG:Hid (qh l=colsFrom [] l):=HG;go_enter func15,ntmps15
 go_wp2_with (first|((with_reducible refine(HC.out _).mono ?_);rintro x w1 ⟨rfl,rfl⟩))
 go_loopw [13] (λi wr=>∃k:Nat,k<=n/\i=↑k/\Hid (colsFrom [] l=colsFrom (l.take k) (l.drop k))/\Ev w wr) (λi _=>n-(intOf i).toNat)
 case atStart=>exact⟨0,awJ _,rfl,zq rfl,Ev.refl _⟩
 case round=>
  obtain⟨k,hk,rfl,HT,hE⟩:=hrel;by_cases hlt:k<n
  ·obtain⟨b,off,⟨xs,xk⟩,rfl,hb,hx,c0,c1⟩:=(h.ev hE).Oj hlt;simp only at c0 c1;have HF:=zq (HT.out.trans (Ha hx));clear hx;simp only at HF;obtain⟨w0,hw0⟩:∃w0,w0=wr.alloc (.cells #[.string xs,↑xk] 50):=⟨_,rfl⟩
   have B0:rF wr.heap.size xs xk w0:=hw0▸rF.new xs xk wr;have aV:Ev wr w0:=hw0▸Ev.alloc wr _;have HM:=λw1=>nK xs w1;generalize f_ xs=nm at*
   cases nm
   ·have HM:=zq HM;replace HF:Hid (colsFrom [] l=20):=zq (by rw[HF.out];rfl)
    go_wp2_with (first|(rw[<-hw0];(with_reducible refine(HM.out _).mono ?_);rintro x w1 ⟨rfl,aN⟩))
    go_ret;exact⟨by rw[HG.out,HF.out];rfl,(hE.trans aV).trans aN⟩
   by_cases qW:xk=1∨xk=2
   ·have hf:=HF.out;rw[if_neg (by rcases qW with rfl|rfl<;>simp)]at hf;have h1:=(h.ev (hE.trans aV)).to k hk;have HD:=λw1 (aN:Ev w0 w1)=>Ed xs w1 (h1.ev aN);obtain⟨fo,nG⟩:∃fo,foundAt (bZ (l.take k) xs)=fo:=⟨_,rfl⟩
    obtain⟨tk,oO⟩:∃tk,(bZ (l.take k) xs).isSome=tk:=⟨_,rfl⟩
    rw[nG,oO]at HD;rw[oO]at hf;have HM:=zq HM;clear nG oO h1;rcases qW with rfl|rfl;exact ayz;exact ayz
   have n1:xk≠1:=λe=>qW (.inl e);have n2:xk≠2:=λe=>qW (.inr e);have m1:(xk !=1)=true:=axI.2 n1;have m2:(xk !=2)=true:=axI.2 n2;have HM:=zq HM;replace HF:Hid (colsFrom [] l=20):=zq (by rw[HF.out,if_pos (by simp[n1,n2])])
   go_wp2_with (first|(rw[<-hw0];(with_reducible refine(HM.out _).mono ?_);rintro x w1 ⟨rfl,aN⟩;have c1:=(B0.ev aN).c1))
   go_ret;exact⟨by rw[HG.out,HF.out];rfl,(hE.trans aV).trans aN⟩
  obtain rfl:k=n:=ae;have HF:Hid (colsFrom [] l=0):=zq (by rw[HT.out,List.drop_eq_nil_of_le (by rw[HN.out];exact awC _)];rfl);go_wp2;go_ret;exact⟨by rw[HG.out,HF.out];rfl,hE⟩
theorem aCp(h:U:=by refine aF λa w c=>⟨(ay rfl),_,run_move _ rfl w,(c.was 0 rfl)⟩):U:=h
theorem aCq(h:U:=by refine aF λa w c=>⟨(ay rfl),_,run_move _ rfl w,(c.was 3 rfl)⟩):U:=h
theorem aAP(h:U:=by refine aF λa w c=>⟨(ay rfl),_,lG k rfl ((c.new 0 44):a.eval (.tmp 44)=.slice ↑(b,off) n cap) ((c.new 1 45):a.eval (.tmp 45)=↑k) qM w,rfl⟩):U:=h
theorem azX(h:U:=by
 refine aF λa w c=>⟨(ay rfl),.pointer ↑(b,off+k*2),?_,rfl⟩
 have e47:a.eval (.tmp 47)=.slice ↑(b,off) n cap:=(c.new 3 47)
 have e48:a.eval (.tmp 48)=↑k:=(c.new 4 48)
 generalize a.eval=ρ at e47 e48|-;simp[execOp,e47,e48,go_sem,i1,i2]):U:=h
theorem aAr(h:U:=by
 refine aF λa w c=>⟨(ay rfl),.pointer ↑(b,off+k*2),?_,rfl⟩
 have e49:a.eval (.tmp 49)=.pointer ↑(b,off+k*2):=(c.new 5 49)
 generalize a.eval=ρ at e49|-;simp[execOp,e49,go_sem]):U:=h
theorem az_(h:U:=by
 refine aF λa w c=>⟨(ay rfl),.string xs,?_,rfl⟩
 have e50:a.eval (.tmp 50)=.pointer ↑(b,off+k*2):=(c.new 6 50)
 have hc:=(c.ev.cell (p:=⟨_,_,none⟩) hb).trans c0;generalize a.eval=ρ at e50|-;simp[execOp,e50,hc,go_sem]):U:=h
theorem azk(h:U:=by
 refine ig λa w c=>⟨(ay rfl),87,#[.slice ↑(b,off) k cap,.string xs],?_,?_⟩
 rw[bT 87 _ _ rfl ah];have e46:a.eval (.tmp 46)=.slice ↑(b,off) k cap:=(c.new 2 46)
 have e51:a.eval (.tmp 51)=.string xs:=(c.new 7 51)
 simp[e46,e51];refine(HD w (aN.trans c.ev)).mono ?_;rintro e w2 ⟨rfl,hE⟩;exact⟨_,rfl,hE,rfl⟩):U:=h
theorem aA_(h:U:=by
 have e43:a.eval (.tmp 43)=.tuple #[↑fo,.bool false]:=(c.new 9 43)
 generalize a.eval=ρ at e43|-;simp[execOp,e43,go_sem]):U:=h
theorem aBb(h:U:=by
 have e43:a.eval (.tmp 43)=.tuple #[↑fo,.bool true]:=(c.new 9 43)
 generalize a.eval=ρ at e43|-;simp[execOp,e43,go_sem]):U:=h
theorem ayy(h:U:=by
 have qM:k<=cap:=ae
 cases tk
 ·have JZ:Hid (colsFrom [] l=colsFrom (l.take (k+1)) (l.drop (k+1))):=zq (by rw[hf];rfl);clear hf
  go_wp2_with (first|((with_reducible refine(HM.out _).mono ?_);rintro x w1 ⟨rfl,aN⟩;have c0:=(aN.cell (p:=⟨b,off+k*2,none⟩) hb).trans c0;have c1:=(aN.cell (p:=⟨b,off+k*2+1,none⟩) hb).trans c1))
  replace hb:=awU hb aN.size;refine bV ed [λv _=>v=.slice ↑(b,off) n cap,λv _=>v=↑k,λv _=>v=.slice ↑(b,off) k cap,λv _=>v=.slice ↑(b,off) n cap,λv _=>v=↑k,λv _=>v=.pointer ↑(b,off+k*2),λv _=>v=.pointer ↑(b,off+k*2),λv _=>v=.string xs,λv _=>v=.tuple #[↑fo,.bool false],λv _=>v=.tuple #[↑fo,.bool false],λv _=>v=↑fo,λv _=>v=.bool false,λv _=>v=↑fo,λv _=>v=.bool false]
   56 rfl ah ⟨az _,az _,az _,az _,az _,az _,az _,az _,az _,az _,az _,az _,az _,az _,trivial⟩ ?_ ?_
  refine aC 0 ?_ (aC 1 ?_ (aC 2 ?_ (aC 3 ?_ (aC 4 ?_ (aC 5 ?_ (aC 6 ?_ (aC 7 ?_ (aC 8 ?_ (aC 9 ?_ (aC 10 ?_ (aC 11 ?_ (aC 12 ?_ (aC 13 ?_ (iT 14))))))))))))));exact aCp;exact aCq;exact aAP;exact aCp;exact aCq;exact azX;exact aAr;exact az_;exact azk;refine aF λa w c=>⟨(ay rfl),_,run_move _ rfl w,(c.new 8 52)⟩
  refine aF λa w c=>⟨(ay rfl),↑fo,?_,rfl⟩
  exact aA_;refine aF λa w c=>⟨(ay rfl),.bool false,?_,rfl⟩
  exact aA_;refine aF λa w c=>⟨(ay rfl),_,run_assign _ rfl w,(c.new 10 53)⟩
  refine aF λa w c=>⟨(ay rfl),_,run_assign _ rfl w,(c.new 11 54)⟩
  intro s w4 Bg hold hnew;have f0:s 0=.slice ↑(b,off) n cap:=hold 0;have f1:_=undef:=hold 1;have f3:s 3=↑k:=hold 3;have f6:s 6=.slice ↑(b,off) n cap:=hold 6;have f7:s 7=↑n:=hold 7;have f8:s 8=.bool false:=hold 8;have f9:s 9=.bool false:=hold 9;have f10:s 10=.slice ↑(b,off) n cap:=hold 10;have f11:s 11=↑n:=hold 11;have f12:s 12=.bool false:=hold 12;have f13:s 13=.bool false:=hold 13;have f4:s 4=↑fo:=hnew 12 4;have f5:s 5=.bool false:=hnew 13 5;change Exit.then _ _ .normal ⟨_,_⟩ _;simp only[List.range,List.range.loop,List.map];simp only[f0,f1,f3,f6,f7,f8,f9,f10,f11,f12,f13,f4,f5];clear hold hnew;generalize s 2=u2,s 14=u14,s 15=u15,s 16=u16,s 17=u17,s 18=u18,s 19=u19,s 20=u20,s 21=u21,s 22=u22,s 23=u23,s 24=u24,s 25=u25,s 26=u26,s 27=u27,s 28=u28,s 29=u29,s 30=u30,s 31=u31,s 32=u32,s 33=u33,s 34=u34,s 35=u35,s 36=u36,s 37=u37,s 38=u38,s 39=u39,s 40=u40,s 41=u41,s 42=u42,s 55=u55;go_wp2;go_roundw
  case rel=>exact⟨k+1,ae,by go_num,JZ,(hE.trans aN).trans Bg⟩
  case measure=>simp[intOf];omega
 have JZ:Hid (colsFrom [] l=21):=zq (by rw[hf];rfl);clear hf
 go_wp2_with (first|((with_reducible refine(HM.out _).mono ?_);rintro x w1 ⟨rfl,aN⟩;have c0:=(aN.cell (p:=⟨b,off+k*2,none⟩) hb).trans c0;have c1:=(aN.cell (p:=⟨b,off+k*2+1,none⟩) hb).trans c1))
 replace hb:=awU hb aN.size;refine bV ed [λv _=>v=.slice ↑(b,off) n cap,λv _=>v=↑k,λv _=>v=.slice ↑(b,off) k cap,λv _=>v=.slice ↑(b,off) n cap,λv _=>v=↑k,λv _=>v=.pointer ↑(b,off+k*2),λv _=>v=.pointer ↑(b,off+k*2),λv _=>v=.string xs,λv _=>v=.tuple #[↑fo,.bool true],λv _=>v=.tuple #[↑fo,.bool true],λv _=>v=↑fo,λv _=>v=.bool true,λv _=>v=↑fo,λv _=>v=.bool true]
  56 rfl ah ⟨az _,az _,az _,az _,az _,az _,az _,az _,az _,az _,az _,az _,az _,az _,trivial⟩ ?_ ?_
 refine aC 0 ?_ (aC 1 ?_ (aC 2 ?_ (aC 3 ?_ (aC 4 ?_ (aC 5 ?_ (aC 6 ?_ (aC 7 ?_ (aC 8 ?_ (aC 9 ?_ (aC 10 ?_ (aC 11 ?_ (aC 12 ?_ (aC 13 ?_ (iT 14))))))))))))));exact aCp;exact aCq;exact aAP;exact aCp;exact aCq;exact azX;exact aAr;exact az_;exact azk;refine aF λa w c=>⟨(ay rfl),_,run_move _ rfl w,(c.new 8 52)⟩
 refine aF λa w c=>⟨(ay rfl),↑fo,?_,rfl⟩
 exact aBb;refine aF λa w c=>⟨(ay rfl),.bool true,?_,rfl⟩
 exact aBb;refine aF λa w c=>⟨(ay rfl),_,run_assign _ rfl w,(c.new 10 53)⟩
 refine aF λa w c=>⟨(ay rfl),_,run_assign _ rfl w,(c.new 11 54)⟩
 intro s w4 Bg hold hnew;have f0:s 0=.slice ↑(b,off) n cap:=hold 0;have f1:_=undef:=hold 1;have f3:s 3=↑k:=hold 3;have f6:s 6=.slice ↑(b,off) n cap:=hold 6;have f7:s 7=↑n:=hold 7;have f8:s 8=.bool false:=hold 8;have f9:s 9=.bool false:=hold 9;have f10:s 10=.slice ↑(b,off) n cap:=hold 10;have f11:s 11=↑n:=hold 11;have f12:s 12=.bool false:=hold 12;have f13:s 13=.bool false:=hold 13;have f4:s 4=↑fo:=hnew 12 4;have f5:s 5=.bool true:=hnew 13 5;change Exit.then _ _ .normal ⟨_,_⟩ _;simp only[List.range,List.range.loop,List.map];simp only[f0,f1,f3,f6,f7,f8,f9,f10,f11,f12,f13,f4,f5];clear hold hnew;go_wp2;go_ret;exact⟨by rw[HG.out,JZ.out];rfl,(hE.trans aN).trans Bg⟩):U:=h
theorem Qj{A:Option Addr}{n cap:Nat}{l:List C}(w:ak)(h:Cs w A n cap l)(hS:∀c∈l,c.1.size<=maxLen):
  Calls ax 42 #[.slice A n cap] w λe w'=>e=.returned (.int .i64 (qh l))/\Ev w w':=by
 have hn:=h.le;have hm:=h.max;have HN:=zq h.len;have HS:=zq hS;clear hS;have ed:Tryz.prog.follows .mixedOrders=true:=ah;by_cases hc:1<=n/\n<=6
 ·have HG:Hid (qh l=colsFrom [] l):=zq (by unfold qh;rw[HN.out,aw5 hc.1,aw5 hc.2];rfl);have j0:¬(n:Int)=0:=ae;have j6:¬(6:Int)<(n:Int):=ae;have b1:((n:Int)==0)=false:=awy.2 j0;have b2:decide ((6:Int)<(n:Int))=false:=axf j6;clear hc;go_enter func42,ntmps42;go_wp2
  go_loopw [3] (λi wr=>∃k:Nat,k<=n/\i=↑k/\Hid (colsFrom [] l=colsFrom (l.take k) (l.drop k))/\Ev w wr) (λi _=>n-(intOf i).toNat)
  case atStart=>exact⟨0,awJ _,rfl,zq rfl,Ev.refl _⟩
  case round=>
   obtain⟨k,hk,rfl,HT,hE⟩:=hrel;by_cases hlt:k<n
   ·obtain⟨b,off,⟨xs,xk⟩,rfl,hb,hx,c0,c1⟩:=(h.ev hE).Oj hlt;simp only at c0 c1;have HF:=zq (HT.out.trans (Ha hx));have PG:=HS.out _ (awG hx);clear hx;simp only at HF PG;have i1:(0:Int)<=(k:Int):=ae;have i2:(k:Int)<(n:Int):=ae;have HM:=λw1=>yg xs w1 PG;generalize f_ xs=nm at*
    cases nm
    ·have HM:=zq HM;replace HF:Hid (colsFrom [] l=20):=zq (by rw[HF.out];rfl)
     go_wp2_with (first|((with_reducible refine(HM.out _).mono ?_);rintro x w1 ⟨rfl,aN⟩))
     go_ret;exact⟨by rw[HG.out,HF.out];rfl,hE.trans aN⟩
    by_cases qW:xk=1∨xk=2
    ·have hf:=HF.out;rw[if_neg (by rcases qW with rfl|rfl<;>simp)]at hf;have h1:=(h.ev hE).to k hk;have HD:=λw1 (aN:Ev wr w1)=>og xs w1 (h1.ev aN);obtain⟨fo,nG⟩:∃fo,foundAt (bZ (l.take k) xs)=fo:=⟨_,rfl⟩
     obtain⟨tk,oO⟩:∃tk,(bZ (l.take k) xs).isSome=tk:=⟨_,rfl⟩
     rw[nG,oO]at HD;rw[oO]at hf;have HM:=zq HM;clear nG oO h1;rcases qW with rfl|rfl;exact ayy;exact ayy
    have n1:xk≠1:=λe=>qW (.inl e);have n2:xk≠2:=λe=>qW (.inr e);have m1:(xk !=1)=true:=axI.2 n1;have m2:(xk !=2)=true:=axI.2 n2;have HM:=zq HM;replace HF:Hid (colsFrom [] l=20):=zq (by rw[HF.out,if_pos (by simp[n1,n2])])
    go_wp2_with (first|((with_reducible refine(HM.out _).mono ?_);rintro x w1 ⟨rfl,aN⟩;have c1:=(aN.cell (p:=⟨b,off+k*2+1,none⟩) hb).trans c1))
    go_ret;exact⟨by rw[HG.out,HF.out];rfl,hE.trans aN⟩
   obtain rfl:k=n:=ae;have HF:Hid (colsFrom [] l=0):=zq (by rw[HT.out,List.drop_eq_nil_of_le (by rw[HN.out];exact awC _)];rfl);go_wp2;go_ret;exact⟨by rw[HG.out,HF.out];rfl,hE⟩
 have HG:Hid (qh l=23):=zq (by
  unfold qh;rw[HN.out];by_cases h1:1<=n;rw[axf (p:=n<=6) (λh2=>hc ⟨h1,h2⟩)];simp;rw[axf h1];simp)
 by_cases h0:n=0
 ·subst h0;go_enter func42,ntmps42;go_wp2;go_ret;exact⟨by rw[HG.out];rfl,Ev.refl _⟩
 have j0:¬(n:Int)=0:=ae;have j6:(6:Int)<(n:Int):=ae;have b1:((n:Int)==0)=false:=awy.2 j0;go_enter func42,ntmps42;go_wp2;go_ret;exact⟨by rw[HG.out];rfl,Ev.refl _⟩
theorem flat_get{α:Type}{k:Nat}{enc:α->List au}(hk:∀x,(enc x).length=k):∀(l:List α) (i:Nat) (x:α),l[i]?=some x->∀j u,(enc x)[j]?=some u->(l.flatMap enc)[i*k+j]?=some u
 | [],_,_,h,_,_,_=>by simp at h
 | y::l,0,x,h,j,u,hu=>by simp at h;subst h;have hj:j<(enc y).length:=(awz.1 hu).1;rw[axS,axi,aw3,ayc hj];exact hu
 | y::l,i+1,x,h,j,u,hu=>by
  have e:(i+1)*k+j-k=i*k+j:=by rw[axZ,axK];omega
  rw[axS,aya (by rw[hk,axZ];omega),hk,e];exact flat_get hk l i x (by simpa using h) j u hu
theorem Sl.made{α:Type}{k:Nat}{enc:α->List au}(hk:∀x,(enc x).length=k)(l:List α)(n:Nat)(hn:l.length=n)(hm:n<=1000)(w:ak)(cs:Array au)(T:TypeId)(hc:cs=(l.flatMap enc).toArray):
  Sl k enc (w.alloc (.cells cs T)) ↑w n n l:=
 ⟨hn,awC _,ae,aj,λ_=>⟨w.heap.size,0,rfl,aj,λi x hx j u hu=>by
  rw[ays (ayq w _),hc,List.getElem?_toArray,aw3];exact flat_get hk l i x hx j u hu⟩⟩
theorem Cs.made(l:List C)(n:Nat)(hn:l.length=n)(hm:n<=1000)(w:ak)(cs:Array au)(hc:cs=(l.flatMap dM).toArray):Cs (w.alloc (.cells cs 50)) ↑w n n l:=Sl.made (enc:=dM) (λ_=>rfl) l n hn hm w cs _ hc
def gZ:List C:=[(⟨#[97]⟩,1),(⟨#[98]⟩,1),(⟨#[115]⟩,2)]
theorem ahy(w:ak):Calls ax 20 #[] w λe w'=>e=.returned (.slice ↑w 3 3)/\Cs w' ↑w 3 3 gZ/\Ev w w':=by go_enter func20,ntmps20;go_wp2;go_ret;exact⟨rfl,Cs.made gZ 3 rfl ai w _ rfl,Ev.alloc _ _⟩
end Go.Proofs.YtpbfokkocaemlaaGreatDoor
