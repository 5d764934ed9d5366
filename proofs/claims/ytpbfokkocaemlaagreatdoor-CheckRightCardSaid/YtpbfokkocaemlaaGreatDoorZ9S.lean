import Derived.Deep.Cut
import Derived.Test.YtpbfokkocaemlaaGreatDoorZ7S
set_option linter.unusedVariables false
set_option maxRecDepth 100000
set_option maxHeartbeats 64000000
namespace Go.Proofs.YtpbfokkocaemlaaGreatDoor
open Go.RowKit
open Go.Lib renaming hid → zq
theorem vk {ρ:Operand→Value} {o:Oper} {x:Operand} {A:Option Addr} {n cap:Nat} (k:Nat) {c:Operand} (ho:o.op=.slice 24 x none (some c) none) (h:ρ x=.slice A n cap) (hc:ρ c=.int .i64 (k:Int)) (hk:k≤cap) (w:World):
  (execOp ρ o).run Tryz.prog w=.ok (.value (.slice A k cap)) w:=by
 have h1:(k:Int)≤(cap:Int):=by omega
 have h2:(0:Int)≤(k:Int):=by omega
 have ht:Tryz.prog.underlying 24=some (.slice (Tryz.prog.elem 24)):=by kernel_rfl
 have hs:(sizeOf (Tryz.prog.elem 24)).run Tryz.prog w=.ok 2 w:=by kernel_rfl
 unfold execOp;rw[ho];simp[h,hc,run_sliceAt_slice w 24 _ _ _ _ ht,run_slice_h w 24 A n cap ht .i64 (k:Int) h2 h1,hs,Result.andThen,sliced,Addr.add]
structure pU (g:Nat) (s:ByteArray) (k:Int) (w:World):Prop where
 blk:w.heap[g]?=some (.cells #[.string s,.int .i64 k] 50 (0,0))
theorem pU.c0 {g:Nat} {s:ByteArray} {k:Int} {w:World} (h:pU g s k w):w.cell? ⟨g,0,none⟩=some (.string s):=by rw[Lib.cell_of_heap h.blk];rfl
theorem pU.c1 {g:Nat} {s:ByteArray} {k:Int} {w:World} (h:pU g s k w):w.cell? ⟨g,1,none⟩=some (.int .i64 k):=by rw[Lib.cell_of_heap h.blk];rfl
theorem pU.ev {g:Nat} {s:ByteArray} {k:Int} {w w':World} (h:pU g s k w) (he:Ev w w'):pU g s k w':=
 ⟨by rw[he.block g (atC.1 h.blk).1];exact h.blk⟩
theorem pU.new (s:ByteArray) (k:Int) (w:World):pU w.heap.size s k (w.alloc (.cells #[.string s,.int .i64 k] 50)):=⟨heap_alloc_new w _⟩
abbrev Is:=Sl 1 (fun x:Int=>[.int .i64 x])
theorem pU.lt {g:Nat} {s:ByteArray} {k:Int} {w:World} (h:pU g s k w):g<w.heap.size:=(atC.1 h.blk).1
theorem aym {P:Prop} (h:P:=by refine aJ fun a w c=>⟨(ay rfl),_,run_move _ rfl w,(c.was 0 rfl)⟩):P:=h
theorem aw1 {P:Prop} (h:P:=by refine aJ fun a w c=>⟨(ay rfl),_,vk k rfl ((c.new 0 33):a.eval (.tmp 33)=.slice (some ⟨b,off,none⟩) n cap) ((c.new 1 34):a.eval (.tmp 34)=.int .i64 (k:Int)) rH w,rfl⟩):P:=h
theorem awV {P:Prop} (h:P:=by
 refine aJ fun a w c=>⟨(ay rfl),.pointer (some ⟨g,0,none⟩),?_,rfl⟩
 have e4:a.eval (.tmp 4)=.pointer (some ⟨g,0,none⟩):=(c.was 4 rfl)
 generalize a.eval=ρ at e4⊢;simp[execOp,e4,go_sem]):P:=h
theorem awE {P:Prop} (h:P:=by
 refine aJ fun a w c=>⟨(ay rfl),.string xs,?_,rfl⟩
 have e36:a.eval (.tmp 36)=.pointer (some ⟨g,0,none⟩):=(c.new 3 36)
 have hc:=(c.ev.cell (p:=⟨_,_,none⟩) B1.lt).trans B1.c0;generalize a.eval=ρ at e36⊢;simp[execOp,e36,hc,go_sem]):P:=h
theorem avX {P:Prop} (h:P:=by
 refine jS fun a w c=>⟨(ay rfl),16,#[.slice (some ⟨b,off,none⟩) k cap,.string xs],?_,?_⟩
 rw[bP 16 _ _ rfl (by kernel_rfl)];have e35:a.eval (.tmp 35)=.slice (some ⟨b,off,none⟩) k cap:=(c.new 2 35)
 have e37:a.eval (.tmp 37)=.string xs:=(c.new 4 37)
 simp[e35,e37];refine (HD w (aH.trans c.ev)).mono ?_;rintro e w2 ⟨rfl,hE⟩;exact⟨_,rfl,hE,rfl⟩):P:=h
theorem axr {P:Prop} (h:P:=by
 have e32:a.eval (.tmp 32)=.tuple #[.int .i64 fo,.bool false]:=(c.new 6 32)
 generalize a.eval=ρ at e32⊢;simp[execOp,e32,go_sem]):P:=h
theorem axs {P:Prop} (h:P:=by
 have e32:a.eval (.tmp 32)=.tuple #[.int .i64 fo,.bool true]:=(c.new 6 32)
 generalize a.eval=ρ at e32⊢;simp[execOp,e32,go_sem]):P:=h
theorem avi {P:Prop} (h:P:=by
 have rH:k≤cap:=by omega
 cases tk
 ·have Ua:Hid (colsFrom [] l=colsFrom (l.take (k+1)) (l.drop (k+1))):=zq (by rw[hf];rfl);clear hf
  go_wp2_with (first|(rw[←hw0];(with_reducible refine (HM.out _).mono ?_);rintro x w1 ⟨rfl,aH⟩;have B1:=B0.ev aH;have c0:=B1.c0;have c1:=B1.c1))
  obtain⟨g,hg⟩:∃g,g=wr.heap.size:=⟨_,rfl⟩
  rw[←hg]at B1⊢;refine fH fJ [fun v _=>v=.slice (some ⟨b,off,none⟩) n cap,fun v _=>v=.int .i64 (k:Int),fun v _=>v=.slice (some ⟨b,off,none⟩) k cap,fun v _=>v=.pointer (some ⟨g,0,none⟩),fun v _=>v=.string xs,fun v _=>v=.tuple #[.int .i64 fo,.bool false],fun v _=>v=.tuple #[.int .i64 fo,.bool false],fun v _=>v=.int .i64 fo,fun v _=>v=.bool false,fun v _=>v=.int .i64 fo,fun v _=>v=.bool false]
   43 rfl (by kernel_rfl) ⟨az _,az _,az _,az _,az _,az _,az _,az _,az _,az _,az _,trivial⟩ ?_ ?_
  refine aG 0 ?_ (aG 1 ?_ (aG 2 ?_ (aG 3 ?_ (aG 4 ?_ (aG 5 ?_ (aG 6 ?_ (aG 7 ?_ (aG 8 ?_ (aG 9 ?_ (aG 10 ?_ (qC 11)))))))))));exact aym;refine aJ fun a w c=>⟨(ay rfl),_,run_move _ rfl w,(c.was 3 rfl)⟩
  exact aw1;exact awV;exact awE;exact avX;refine aJ fun a w c=>⟨(ay rfl),_,run_move _ rfl w,(c.new 5 38)⟩
  refine aJ fun a w c=>⟨(ay rfl),.int .i64 fo,?_,rfl⟩
  exact axr;refine aJ fun a w c=>⟨(ay rfl),.bool false,?_,rfl⟩
  exact axr;refine aJ fun a w c=>⟨(ay rfl),_,run_assign _ rfl w,(c.new 7 39)⟩
  refine aJ fun a w c=>⟨(ay rfl),_,run_assign _ rfl w,(c.new 8 40)⟩
  intro s w4 Lj hold hnew;have f0:s 0=.slice (some ⟨b,off,none⟩) n cap:=hold 0;have f1:s 1=undef:=hold 1;have f3:s 3=.int .i64 (k:Int):=hold 3;have f4:s 4=.pointer (some ⟨g,0,none⟩):=hold 4;have f7:s 7=.slice (some ⟨b,off,none⟩) n cap:=hold 7;have f8:s 8=.int .i64 (n:Int):=hold 8;have f9:s 9=.bool true:=hold 9;have f10:s 10=.bool false:=hold 10;have f11:s 11=.slice (some ⟨b,off,none⟩) n cap:=hold 11;have f12:s 12=.int .i64 (n:Int):=hold 12;have f13:s 13=.int .i64 (k:Int):=hold 13;have f5:s 5=.int .i64 fo:=hnew 9 5;have f6:s 6=.bool false:=hnew 10 6;change Exit.then _ _ .normal ⟨_,_⟩ _;simp only[List.range,List.range.loop,List.map];simp only[f0,f1,f3,f4,f7,f8,f9,f10,f11,f12,f13,f5,f6];clear hold hnew;generalize s 2=u2;generalize s 14=u14;generalize s 15=u15;generalize s 16=u16;generalize s 17=u17;generalize s 18=u18;generalize s 19=u19;generalize s 20=u20;generalize s 21=u21;generalize s 22=u22;generalize s 23=u23;generalize s 24=u24;generalize s 25=u25;generalize s 26=u26;generalize s 27=u27;generalize s 28=u28;generalize s 29=u29;generalize s 30=u30;generalize s 31=u31;generalize s 41=u41;generalize s 42=u42;go_wp2;go_roundw
  case rel=>exact⟨k+1,by omega,by go_num,Ua,((hE.trans aT).trans aH).trans Lj⟩
  case measure=>simp[intOf];omega
 have Ua:Hid (colsFrom [] l=21):=zq (by rw[hf];rfl);clear hf
 go_wp2_with (first|(rw[←hw0];(with_reducible refine (HM.out _).mono ?_);rintro x w1 ⟨rfl,aH⟩;have B1:=B0.ev aH;have c0:=B1.c0;have c1:=B1.c1))
 obtain⟨g,hg⟩:∃g,g=wr.heap.size:=⟨_,rfl⟩
 rw[←hg]at B1⊢;refine fH fJ [fun v _=>v=.slice (some ⟨b,off,none⟩) n cap,fun v _=>v=.int .i64 (k:Int),fun v _=>v=.slice (some ⟨b,off,none⟩) k cap,fun v _=>v=.pointer (some ⟨g,0,none⟩),fun v _=>v=.string xs,fun v _=>v=.tuple #[.int .i64 fo,.bool true],fun v _=>v=.tuple #[.int .i64 fo,.bool true],fun v _=>v=.int .i64 fo,fun v _=>v=.bool true,fun v _=>v=.int .i64 fo,fun v _=>v=.bool true]
  43 rfl (by kernel_rfl) ⟨az _,az _,az _,az _,az _,az _,az _,az _,az _,az _,az _,trivial⟩ ?_ ?_
 refine aG 0 ?_ (aG 1 ?_ (aG 2 ?_ (aG 3 ?_ (aG 4 ?_ (aG 5 ?_ (aG 6 ?_ (aG 7 ?_ (aG 8 ?_ (aG 9 ?_ (aG 10 ?_ (qC 11)))))))))));exact aym;refine aJ fun a w c=>⟨(ay rfl),_,run_move _ rfl w,(c.was 3 rfl)⟩
 exact aw1;exact awV;exact awE;exact avX;refine aJ fun a w c=>⟨(ay rfl),_,run_move _ rfl w,(c.new 5 38)⟩
 refine aJ fun a w c=>⟨(ay rfl),.int .i64 fo,?_,rfl⟩
 exact axs;refine aJ fun a w c=>⟨(ay rfl),.bool true,?_,rfl⟩
 exact axs;refine aJ fun a w c=>⟨(ay rfl),_,run_assign _ rfl w,(c.new 7 39)⟩
 refine aJ fun a w c=>⟨(ay rfl),_,run_assign _ rfl w,(c.new 8 40)⟩
 intro s w4 Lj hold hnew;have f0:s 0=.slice (some ⟨b,off,none⟩) n cap:=hold 0;have f1:s 1=undef:=hold 1;have f3:s 3=.int .i64 (k:Int):=hold 3;have f4:s 4=.pointer (some ⟨g,0,none⟩):=hold 4;have f7:s 7=.slice (some ⟨b,off,none⟩) n cap:=hold 7;have f8:s 8=.int .i64 (n:Int):=hold 8;have f9:s 9=.bool true:=hold 9;have f10:s 10=.bool false:=hold 10;have f11:s 11=.slice (some ⟨b,off,none⟩) n cap:=hold 11;have f12:s 12=.int .i64 (n:Int):=hold 12;have f13:s 13=.int .i64 (k:Int):=hold 13;have f5:s 5=.int .i64 fo:=hnew 9 5;have f6:s 6=.bool true:=hnew 10 6;change Exit.then _ _ .normal ⟨_,_⟩ _;simp only[List.range,List.range.loop,List.map];simp only[f0,f1,f3,f4,f7,f8,f9,f10,f11,f12,f13,f5,f6];clear hold hnew;go_wp2;go_ret;exact⟨by rw[HG.out,Ua.out];rfl,((hE.trans aT).trans aH).trans Lj⟩):P:=h
theorem yN {A:Option Addr} {n cap:Nat} {l:List C} (w:World) (h:Cs w A n cap l):
  Calls Tryz.prog 15 #[.slice A n cap] w fun e w'=>e=.returned (.int .i64 (yx l))∧Ev w w':=by
 have hn:=h.le;have hm:=h.max;have HN:=zq h.len;have HC:=zq (fun w1=>Qs n w1 (by omega));have HG:Hid (yx l=cond (decide (1≤n)&&decide (n≤6)) (colsFrom [] l) 23):=zq (by unfold yx;rw[HN.out];cases (decide (1≤n)&&decide (n≤6))<;>rfl);have fJ:Tryz.prog.follows .mixedOrders=true:=by kernel_rfl
 generalize (decide (1≤n)&&decide (n≤6))=c at*
 cases c
 ·replace HG:Hid (yx l=23):=HG;go_enter Tryz.func15,Tryz.ntmps15
  go_wp2_with (first|((with_reducible refine (HC.out _).mono ?_);rintro x w1 ⟨rfl,rfl⟩))
  go_ret;exact⟨by rw[HG.out];rfl,Ev.refl _⟩
 replace HG:Hid (yx l=colsFrom [] l):=HG;go_enter Tryz.func15,Tryz.ntmps15
 go_wp2_with (first|((with_reducible refine (HC.out _).mono ?_);rintro x w1 ⟨rfl,rfl⟩))
 go_loopw [13] (fun i wr=>∃k:Nat,k≤n∧i=.int .i64 k∧Hid (colsFrom [] l=colsFrom (l.take k) (l.drop k))∧Ev w wr) (fun i _=>n - (intOf i).toNat)
 case atStart=>exact⟨0,atG _,rfl,zq rfl,Ev.refl _⟩
 case round=>
  obtain⟨k,hk,rfl,HT,hE⟩:=hrel;by_cases hlt:k<n
  ·obtain⟨b,off,⟨xs,xk⟩,rfl,hb,hx,c0,c1⟩:=(h.ev hE).Yy hlt;simp only at c0 c1;have HF:=zq (HT.out.trans (Qo hx));clear hx;simp only at HF;obtain⟨w0,hw0⟩:∃w0,w0=wr.alloc (.cells #[.string xs,.int .i64 xk] 50):=⟨_,rfl⟩
   have B0:pU wr.heap.size xs xk w0:=hw0▸pU.new xs xk wr;have aT:Ev wr w0:=hw0▸Ev.alloc wr _;have HM:=fun w1=>wO xs w1;generalize fM xs=nm at*
   cases nm
   ·have HM:=zq HM;replace HF:Hid (colsFrom [] l=20):=zq (by rw[HF.out];rfl)
    go_wp2_with (first|(rw[←hw0];(with_reducible refine (HM.out _).mono ?_);rintro x w1 ⟨rfl,aH⟩))
    go_ret;exact⟨by rw[HG.out,HF.out];rfl,(hE.trans aT).trans aH⟩
   by_cases Gv:xk=1∨xk=2
   ·have hf:=HF.out;rw[if_neg (by rcases Gv with rfl|rfl<;>simp)]at hf;have h1:=(h.ev (hE.trans aT)).to k hk;have HD:=fun w1 (aH:Ev w0 w1)=>CQ xs w1 (h1.ev aH);obtain⟨fo,lK⟩:∃fo,foundAt (iO (l.take k) xs)=fo:=⟨_,rfl⟩
    obtain⟨tk,nX⟩:∃tk,(iO (l.take k) xs).isSome=tk:=⟨_,rfl⟩
    rw[lK,nX]at HD;rw[nX]at hf;have HM:=zq HM;clear lK nX h1;rcases Gv with rfl|rfl;exact avi;exact avi
   have n1:xk≠1:=fun e=>Gv (.inl e);have n2:xk≠2:=fun e=>Gv (.inr e);have m1:(xk !=1)=true:=auJ.2 n1;have m2:(xk !=2)=true:=auJ.2 n2;have HM:=zq HM;replace HF:Hid (colsFrom [] l=20):=zq (by rw[HF.out,if_pos (by simp[n1,n2])])
   go_wp2_with (first|(rw[←hw0];(with_reducible refine (HM.out _).mono ?_);rintro x w1 ⟨rfl,aH⟩;have c1:=(B0.ev aH).c1))
   go_ret;exact⟨by rw[HG.out,HF.out];rfl,(hE.trans aT).trans aH⟩
  obtain rfl:k=n:=by omega
  have HF:Hid (colsFrom [] l=0):=zq (by rw[HT.out,List.drop_eq_nil_of_le (by rw[HN.out];exact att _)];rfl);go_wp2;go_ret;exact⟨by rw[HG.out,HF.out];rfl,hE⟩
theorem flat_get {α:Type} {k:Nat} {enc:α→List Value} (hk:∀x,(enc x).length=k):∀(l:List α) (i:Nat) (x:α),l[i]?=some x→∀j u,(enc x)[j]?=some u→(l.flatMap enc)[i*k+j]?=some u
 | [],_,_,h,_,_,_=>by simp at h
 | y::l,0,x,h,j,u,hu=>by simp at h;subst h;have hj:j<(enc y).length:=(atr.1 hu).1;rw[auN,aud,atT,au9 hj];exact hu
 | y::l,i+1,x,h,j,u,hu=>by
  have e:(i+1)*k+j - k=i*k+j:=by rw[auU,auE];omega
  rw[auN,au7 (by rw[hk,auU];omega),hk,e];exact flat_get hk l i x (by simpa using h) j u hu
theorem Sl.made {α:Type} {k:Nat} {enc:α→List Value} (hk:∀x,(enc x).length=k) (l:List α) (n:Nat) (hn:l.length=n) (hm:n≤1000) (w:World) (cs:Array Value) (T:TypeId) (hc:cs=(l.flatMap enc).toArray):
  Sl k enc (w.alloc (.cells cs T)) (some ⟨w.heap.size,0,none⟩) n n l:=
 ⟨hn,att _,by omega,by simp,fun _=>⟨w.heap.size,0,rfl,by simp,fun i x hx j u hu=>by
  rw[Lib.cell_of_heap (heap_alloc_new w _),hc,List.getElem?_toArray,atT];exact flat_get hk l i x hx j u hu⟩⟩
theorem Cs.made (l:List C) (n:Nat) (hn:l.length=n) (hm:n≤1000) (w:World) (cs:Array Value) (hc:cs=(l.flatMap eP).toArray):Cs (w.alloc (.cells cs 50)) (some ⟨w.heap.size,0,none⟩) n n l:=Sl.made (enc:=eP) (fun _=>rfl) l n hn hm w cs _ hc
def lZ:List C:=[(⟨#[97]⟩,1),(⟨#[98]⟩,1),(⟨#[115]⟩,2)]
theorem aem (w:World):Calls Tryz.prog 20 #[] w fun e w'=>e=.returned (.slice (some ⟨w.heap.size,0,none⟩) 3 3)∧Cs w' (some ⟨w.heap.size,0,none⟩) 3 3 lZ∧Ev w w':=by go_enter Tryz.func20,Tryz.ntmps20;go_wp2;go_ret;exact⟨rfl,Cs.made lZ 3 rfl (by decide) w _ rfl,Ev.alloc _ _⟩
end Go.Proofs.YtpbfokkocaemlaaGreatDoor
