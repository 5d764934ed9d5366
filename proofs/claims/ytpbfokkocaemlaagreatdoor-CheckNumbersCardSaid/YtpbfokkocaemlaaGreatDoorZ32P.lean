import Derived.Shelf.Small.Bits
import Derived.Test.YtpbfokkocaemlaaGreatDoorZ31P
import Derived.Test.YtpbfokkocaemlaaGreatDoorZ30P
set_option linter.unusedVariables false
set_option maxRecDepth 100000
set_option maxHeartbeats 64000000
namespace Go.Proofs
open Go.Shelf
def Tryz.bitsLen_ren : Go.Shelf.Ren := ⟨fun | 125 => 94 | 128 => 135 | 129 => 136 | n => n, fun | 46 => 142 | 3 => 3 | 51 => 190 | 53 => 192 | 4 => 4 | 5 => 5 | 9 => 9 | n => n, fun | n => n⟩
theorem Tryz.bitsLen : Go.Proofs.Lays.n125 Tryz.prog Tryz.bitsLen_ren := {
  mixed := by kernel_rfl
  f125 := Tryz.func94.trans (congrArg some (by kernel_rfl))
  f128 := Tryz.func135.trans (congrArg some (by kernel_rfl))
  f129 := Tryz.func136.trans (congrArg some (by kernel_rfl))
  t3 := Tryz.underlying3
  a3 := Tryz.isAgg3
  z3 := Tryz.sizeOf3
  v3 := Tryz.zeroValue3
  t4 := Tryz.underlying4
  a4 := Tryz.isAgg4
  z4 := Tryz.sizeOf4
  v4 := Tryz.zeroValue4
  t5 := Tryz.underlying5
  a5 := Tryz.isAgg5
  z5 := Tryz.sizeOf5
  v5 := Tryz.zeroValue5
  t9 := Tryz.underlying9
  a9 := Tryz.isAgg9
  z9 := Tryz.sizeOf9
  v9 := Tryz.zeroValue9
  t46 := Tryz.underlying142
  a46 := Tryz.isAgg142
  z46 := Tryz.sizeOf142
  v46 := Tryz.zeroValue142
  t51 := Tryz.underlying190
  a51 := Tryz.isAgg190
  z51 := Tryz.sizeOf190
  v51 := Tryz.zeroValue190
  t53 := Tryz.underlying192
  a53 := Tryz.isAgg192
  z53 := Tryz.sizeOf192
  v53 := Tryz.zeroValue192 }
end Go.Proofs
namespace Go.Proofs.YtpbfokkocaemlaaGreatDoor
open Go.RowKit
open Go.Lib renaming hid → zq
open Go renaming World → ak
open Go renaming Value → au
open Go.Proofs.Tryz renaming prog → ax
variable {U:Prop}
open Go.Proofs.Tryz

theorem EU (n : Nat) (w : World) (h : n ≤ 1000) : Calls Tryz.prog 94 #[.int .u64 (n : Int)] w fun e w' => e = .returned (.int .i64 (Lib.bitLen n : Nat)) ∧ w' = w := by
  have := Go.Proofs.Any.bits_Len Tryz.bitsLen (n : Int) w (by omega) (by omega)
  exact this
theorem afm (go gb : Nat) (r lim : Int) (w : World) (hO : Bx 3 go #[.int .i64 0, .int .i64 1] w) (hr0 : 0 ≤ r) (hC : ∀ w1, Ev w w1 → Calls Tryz.prog 49 #[.int .i64 1, .int .i64 0, .pointer (some ⟨gb, 0, none⟩)] w1 fun e w' => e = .returned (.int .i64 r) ∧ Ev w1 w') :
    Calls Tryz.prog 93 #[.slice (some ⟨go, 0, none⟩) 2 2, .int .i64 0, .int .i64 2, .int .i64 lim, .func (.func 49) #[] #[.pointer (some ⟨gb, 0, none⟩)]] w fun e w' => e = .returned (.tuple #[]) ∧ Ev w w' := by
  have HI := zq (afl go gb r w hO hr0 hC)
  clear hO hC
  go_enter Tryz.func93, Tryz.ntmps93
  go_wp2
  refine wp_loop_rounds 1 ?_
  rw [rounds_succ]
  go_wp2_with ((with_reducible refine (HI.out).mono ?_); rintro e w1 ⟨rfl, aN⟩)
  (try simp only [Exit.inBlock, Exit.then])
  refine bodyPost_ret (results_none rfl _ _ _) rfl ?_
  exact ⟨rfl, aN⟩
theorem acQ (go gb : Nat) (r : Int) (w : World) (hO : Bx 3 go #[.int .i64 0, .int .i64 1] w) (hr0 : 0 ≤ r) (hC : ∀ w1, Ev w w1 → Calls Tryz.prog 49 #[.int .i64 1, .int .i64 0, .pointer (some ⟨gb, 0, none⟩)] w1 fun e w' => e = .returned (.int .i64 r) ∧ Ev w1 w') :
    Calls Tryz.prog 48 #[.slice (some ⟨go, 0, none⟩) 2 2, .func (.func 49) #[] #[.pointer (some ⟨gb, 0, none⟩)]] w fun e w' => e = .returned (.tuple #[]) ∧ Ev w w' := by
  have HP := zq (fun lim => afm go gb r lim w hO hr0 hC)
  have HL : Hid (∀ w1, Calls Tryz.prog 94 #[.int .u64 2] w1 fun e w' => ∃ k : Int, e = .returned (.int .i64 k) ∧ w' = w1) := zq fun w1 => (EU 2 w1 (by omega)).mono fun e w' h => ⟨_, h.1, h.2⟩
  clear hO hC
  go_enter Tryz.func48, Tryz.ntmps48
  go_wp2_with (first
    | ((with_reducible refine (HL.out _).mono ?_); rintro e w1 ⟨k, rfl, rfl⟩)
    | ((with_reducible refine (HP.out _).mono ?_); rintro e w1 ⟨rfl, aN⟩))
  go_end0
  exact ⟨rfl, aN⟩
theorem Yo(w:ak)(v:au):∃w0,w.alloc (.cells #[v] 34)=w0/\Ev w w0/\Bx 34 w.heap.size #[v] w0/\w0.heap.size=w.heap.size+1:=⟨_,rfl,Ev.alloc _ _,Bx.new _ _ _,aj⟩
theorem Tryz.EX:(Tryz.prog.info? 3).map (λi=>(i.zero,i.size,i.bytes))=some (some (.int .i64 0),1,8):=ah
theorem aim(u:ak):(Instr.makeSlice 88 (.int .i64 2) (.int .i64 2)).run ax u=.ok (.slice ↑u 2 2) (u.alloc (.cells #[.int .i64 0,.int .i64 0] 3)):=by obtain⟨i0,hi,hz0,hz1,hz2⟩:=info_parts Tryz.EX;have h:=run_make (P:=ax) u 88 3 i0 _ underlying88 hi hz0 .i64 .i64 2 2 ae (Int.le_refl _) (by rw[hz2];omega) ae;rw[hz1,show madeCells (Value.int .i64 0).cells (Int.toNat 2*1)=#[.int .i64 0,.int .i64 0] by kernel_rfl]at h;exact h
theorem afn(bd:Nat)(d0 d1:DM)(w:ak)(h:pV w ↑bd 2 2 [d0,d1])(hn:(d1.name==d0.name)=false)(hc:0<=NW d1 d0 1 0):
  Calls ax 25 #[.slice ↑bd 2 2] w λe w'=>e=.returned (.int .i64 2)/\Ev w w':=by
 have ed:Tryz.prog.follows .mixedOrders=true:=ah;have hmf:∀(fn:Fn) (first cap:Array au) (w:ak),(Instr.makeFunc fn first cap).run ax w=.ok (.func fn first cap) w:=λ_ _ _ _=>rfl;obtain⟨w0,hw0,aV,QQ,hs0⟩:=Yo w (.slice ↑bd 2 2);have HB:=zq QQ;have hl0:w0.cell? ⟨↑w,0,none⟩=some (.slice ↑bd 2 2):=QQ.cell 0;have HC:=zq (λw1 (hE:Ev w0 w1)=>Jk w.heap.size bd 0 2 2 [d0,d1] 1 0 d1 d0 w1 (QQ.ev hE) (h.ev (aV.trans hE)) rfl rfl);have cu:=zq aV;have hB1:=Bx.new 3 #[.int .i64 0,.int .i64 0] w0;obtain⟨⟨o0,o1⟩,z0,z1⟩:=hB1.two;have hmk:=aim w0;have HN:Hid (∀w1,Ev w0 w1->bd<w1.heap.size/\w1.cell? ⟨bd,0,none⟩=some ↑d0.name/\w1.cell? ⟨bd,2,none⟩=some ↑d1.name):=zq λw1 hE=>by
  have h1:=h.ev (aV.trans hE);obtain⟨b,o,e,hbl,c0,_⟩:=h1.cell (i:=0) (d:=d0) rfl;obtain⟨b',o',e',_,c1,_⟩:=h1.cell (i:=1) (d:=d1) rfl;injection e with e
  injection e with e1 e2 _
  injection e' with e'
  injection e' with e3 e4 _
  subst e1 e2 e3 e4;exact⟨hbl,c0,c1⟩
 clear QQ h aV hB1;go_enter func25,ntmps25;go_wp2;refine ayw 3 ?_;rw[ayx];go_wp2;rw[ayx];go_wp2;rw[ayx];go_upto_region 7 with fail
 obtain⟨w5,FD⟩:∃w5,w5=w0.alloc (.cells #[.int .i64 0,.int .i64 1] 3):=⟨_,rfl⟩
 rw[<-FD];have MX:=Bx.new 3 #[.int .i64 0,.int .i64 1] w0;rw[<-FD,hs0]at MX;have kH:Ev w0 w5:=by rw[FD];exact Ev.alloc _ _
 have zN:=zq kH;have HS:=zq (acQ (w.heap.size+1) w.heap.size _ w5 MX hc λw1 hE=>HC.out w1 (kH.trans hE));have MZ:=zq MX;clear FD MX kH o0 o1 z0 z1 hmk hw0;have hg5:=MZ.out.lt;have l5:=(zN.out.cell (p:=⟨↑w,0,none⟩) (show w.heap.size<w0.heap.size by omega)).trans hl0;clear hl0
 go_wp2_with ((with_reducible refine(HS.out).mono ?_);rintro e w6 ⟨rfl,lS⟩;have HE6:=zq (zN.out.trans lS);have hl6:w6.cell? ⟨↑w,0,none⟩=some (.slice ↑bd 2 2):=(HB.out.ev (zN.out.trans lS)).cell 0;obtain⟨⟨o0,o1⟩,_⟩:=(MZ.out.ev lS).two;obtain⟨hbl,n0,n1⟩:=HN.out w6 (zN.out.trans lS);clear lS l5)
 refine ayw 2 ?_;rw[ayx];go_upto_region 12 with fail
 go_quiet (fail)
 go_wp2;rw[ayx];go_wp2;go_ret;exact⟨rfl,(cu.out.trans HE6.out).trans (Ev.drewN w6 nq)⟩
def zI(g:Nat):List DM:=[⟨[116],some ⟨g,0,none⟩,3,gZ⟩,⟨[117],some ⟨g+1,0,none⟩,2,nN⟩]
def tuF:List Df:=[([116],gZ),([117],nN)]
theorem acS(g:Nat):(zI g).map DM.df=tuF:=rfl
def Yp(v:au)(w:ak):Prop:=∃g,v=.slice (some ⟨g+2,0,none⟩) 2 2/\pV w (some ⟨g+2,0,none⟩) 2 2 (zI g)
theorem Yp.mono:ru Yp:=λv w w' hE ⟨g,e,h⟩=>⟨g,e,h.ev hE⟩
theorem aAh(h:U:=by unfold zI at hd;rcases awN.1 hd with rfl|hd;exact(hT.ev bM).ev dV;simp at hd;subst hd;have h1:=hU.ev dV;rw[show (w.alloc (.cells (gZ.flatMap dM).toArray 50)).heap.size=w.heap.size+1 by simp]at h1;exact h1):U:=h
theorem Ux(w:ak):Calls ax 9 #[] w λe w'=>∃v,e=.returned v/\Ev w w'/\Yp v w':=by
 have hT:=Cs.made gZ 3 rfl ai w _ rfl;have hU:=Cs.made nN 2 rfl ai (w.alloc (.cells (gZ.flatMap dM).toArray 50)) _ rfl;have hD:=Sl.made (k:=2) (enc:=dc) (λ_=>rfl) (zI w.heap.size) 2 rfl ai ((w.alloc (.cells (gZ.flatMap dM).toArray 50)).alloc (.cells (nN.flatMap dM).toArray 50)) _ 42 rfl;have aN:=Ev.alloc w (.cells (gZ.flatMap dM).toArray 50);have bM:=Ev.alloc (w.alloc (.cells (gZ.flatMap dM).toArray 50)) (.cells (nN.flatMap dM).toArray 50);have dV:=Ev.alloc ((w.alloc (.cells (gZ.flatMap dM).toArray 50)).alloc (.cells (nN.flatMap dM).toArray 50)) (.cells ((zI w.heap.size).flatMap dc).toArray 42);have HF:Yp (.slice (some ⟨w.heap.size+2,0,none⟩) 2 2) (((w.alloc (.cells (gZ.flatMap dM).toArray 50)).alloc (.cells (nN.flatMap dM).toArray 50)).alloc (.cells ((zI w.heap.size).flatMap dc).toArray 42)):=by refine⟨w.heap.size,rfl,⟨by simpa using hD,λd hd=>?_⟩⟩;exact aAh
 have HF:=zq HF;have HE:=zq ((aN.trans bM).trans dV);clear hT hU hD aN bM dV;go_enter func9,ntmps9;go_wp2;go_ret;exact⟨_,rfl,HE.out,HF.out⟩
theorem ain:qh gZ=0:=by decide+kernel
theorem aio:qh nN=0:=by decide+kernel
theorem Uy:f_ ⟨#[116]⟩=true:=by decide+kernel
theorem acT:f_ ⟨#[117]⟩=true:=by decide+kernel
theorem aip(g:Nat):0<=NW ⟨[117],some ⟨g+1,0,none⟩,2,nN⟩ ⟨[116],some ⟨g,0,none⟩,3,gZ⟩ 1 0:=by show 0<=or2 (ER ⟨#[117]⟩ ⟨#[116]⟩) (ET ((1:Nat):Int) ((0:Nat):Int));decide+kernel
theorem Yq(v:au)(w:ak)(h:Yp v w):Calls ax 13 #[v] w λe w'=>e=.returned (.int .i64 0)/\Ev w w':=by
 obtain⟨g,rfl,hD⟩:=h;have HR:=zq (afn (g+2) _ _ w hD (by rfl) (aip g));have HN:Hid (∀w1,Ev w w1->g+2<w1.heap.size/\w1.cell? ⟨g+2,0,none⟩=some (.string ⟨#[116]⟩)/\w1.cell? ⟨g+2,1,none⟩=some (.slice ↑g 3 3)/\w1.cell? ⟨g+2,2,none⟩=some (.string ⟨#[117]⟩)/\w1.cell? ⟨g+2,3,none⟩=some (.slice (some ⟨g+1,0,none⟩) 2 2)):=zq λw1 hE=>by
  have h1:=hD.ev hE;obtain⟨b,o,e,hbl,c0,c1⟩:=h1.cell (i:=0) (d:=⟨[116],some ⟨g,0,none⟩,3,gZ⟩) rfl;obtain⟨b',o',e',_,c2,c3⟩:=h1.cell (i:=1) (d:=⟨[117],some ⟨g+1,0,none⟩,2,nN⟩) rfl;injection e with e
  injection e with e1 e2 _
  injection e' with e'
  injection e' with e3 e4 _
  subst e1 e2 e3 e4;exact⟨hbl,c0,c1,c2,c3⟩
 have HNT:=zq (λw1=>nK ⟨#[116]⟩ w1);have HNU:=zq (λw1=>nK ⟨#[117]⟩ w1);have Ye:Hid (∀w1,Ev w w1->Calls ax 15 #[.slice ↑g 3 3] w1 λe w'=>e=.returned (.int .i64 (qh gZ))/\Ev w1 w'):=zq (λw1 (hE:Ev w w1)=>sU w1 ((hD.cols ⟨[116],some ⟨g,0,none⟩,3,gZ⟩ (by simp[zI])).ev hE));have HCU:Hid (∀w1,Ev w w1->Calls ax 15 #[.slice (some ⟨g+1,0,none⟩) 2 2] w1 λe w'=>e=.returned (.int .i64 (qh nN))/\Ev w1 w'):=zq (λw1 (hE:Ev w w1)=>sU w1 ((hD.cols ⟨[117],some ⟨g+1,0,none⟩,2,nN⟩ (by simp[zI])).ev hE));rw[Uy]at HNT;rw[acT]at HNU;rw[ain]at Ye;rw[aio]at HCU;clear hD;go_enter func13,ntmps13
 go_wp2_with ((with_reducible refine(HR.out).mono ?_);rintro e w1 ⟨rfl,aN⟩;have oK:=zq aN;obtain⟨hbl,c0,c1,c2,c3⟩:=HN.out w1 aN;clear aN)
 refine ayw 3 ?_;rw[ayx];have hX:=Bx.new 42 #[.string ⟨#[116]⟩,.slice ↑g 3 3] w1;obtain⟨⟨b0,b1⟩,_⟩:=hX.two
 go_wp2_with (first
  | ((with_reducible refine(HNT.out _).mono ?_);rintro e w2 ⟨rfl,hE⟩;have E2:=zq (oK.out.trans ((Ev.alloc w1 _).trans hE));clear b0 b1;obtain⟨⟨b0,b1⟩,_⟩:=(hX.ev hE).two;clear hE)
  | ((with_reducible refine(Ye.out _ E2.out).mono ?_);rintro e w3 ⟨rfl,hE⟩;have VY:=zq (E2.out.trans hE);clear hbl c0 c1 c2 c3;obtain⟨hbl,c0,c1,c2,c3⟩:=HN.out w3 VY.out;clear hE E2))
 clear hX b0 b1;rw[ayx];have hX:=Bx.new 42 #[.string ⟨#[117]⟩,.slice (some ⟨g+1,0,none⟩) 2 2] w3;obtain⟨⟨b0,b1⟩,_⟩:=hX.two
 go_wp2_with (first
  | ((with_reducible refine(HNU.out _).mono ?_);rintro e w4 ⟨rfl,hE⟩;have E2:=zq (VY.out.trans ((Ev.alloc w3 _).trans hE));clear b0 b1;obtain⟨⟨b0,b1⟩,_⟩:=(hX.ev hE).two;clear hE)
  | ((with_reducible refine(HCU.out _ E2.out).mono ?_);rintro e w5 ⟨rfl,hE⟩;have zN:=zq (E2.out.trans hE);clear hbl c0 c1 c2 c3;obtain⟨hbl,c0,c1,c2,c3⟩:=HN.out w5 zN.out;clear hE E2))
 clear hX b0 b1;rw[ayx];go_wp2;go_ret;exact⟨rfl,zN.out⟩
theorem Jl(l:List By)(A:Option Addr)(n cap:Nat)(s:ByteArray)(w:ak)(h:Ss w A n cap l):
  Calls ax 92 #[.slice A n cap,.string s] w λe w'=>e=.returned (.bool (oL l s))/\w'=w:=by
 have hn:=h.le;have hm:=h.max;have HL:=zq h.len;have H:=zq h;clear h;go_enter func92,ntmps92;go_wp2
 go_loopw [5] (λi wr=>∃k:Nat,k<=n/\i=↑k/\Hid (oL (l.take k) s=false)/\Hid (wr=w)) (λi _=>n-(intOf i).toNat)
 case atStart=>exact⟨0,awJ _,rfl,zq rfl,zq rfl⟩
 case round=>
  obtain⟨k,hk,rfl,HT,HE⟩:=hrel;by_cases hlt:k<n
  ·obtain⟨x,hx⟩:=H.out.at hlt;obtain⟨b,off,rfl,c0⟩:=Ss.qZ (HE.out▸H.out) hx;have HX:=zq hx;have i1:(0:Int)<=(k:Int):=ae;have i2:(k:Int)<(n:Int):=ae;clear hx
   cases ht:(s.toList==x)
   ·have HF:=zq (OI HT.out HX.out ht);have SL:(x==s.toList)=false:=by rw[awy]at ht|-;exact λe=>ht e.symm
    go_wp2;go_roundw
    case rel=>exact⟨k+1,ae,by go_num,HF,HE⟩
    case measure=>simp[intOf];omega
   have HF:=zq (Tz HX.out ht);have SL:(x==s.toList)=true:=by rw[awO]at ht|-;exact ht.symm
   go_wp2;go_ret;exact⟨by rw[HF.out];rfl,HE.out⟩
  obtain rfl:k=n:=ae;have HF:Hid (oL l s=false):=zq (by have:=HT.out;rwa [awS (by rw[HL.out];exact awC _)]at this);go_wp2;go_ret;exact⟨by rw[HF.out];rfl,HE.out⟩
theorem Tryz.ZW:(Tryz.prog.info? 64).map (λi=>(i.zero,i.size,i.bytes))=some (some (.agg #[.string ⟨#[]⟩,↑()]),2,40):=ah
def acU(x:DM)(v:au)(w:ak):Prop:=∃g,v=.slice (some ⟨g,0,none⟩) 1 1/\Sl 2 dc w (some ⟨g,0,none⟩) 1 1 [x]
theorem acU.mono(x:DM):ru (acU x):=λv w w' hE ⟨g,e,h⟩=>⟨g,e,h.ev hE⟩
def OwD(b:Nat)(l:List DM)(v:au)(w:ak):Prop:=Ow 64 2 dc b w v l
theorem OwD.mono(b:Nat)(l:List DM):ru (OwD b l):=λv w w' hE h=>h.ev hE
theorem IL{b:Nat}{v:au}{w:ak}{Z:List DM}{ρ:Operand->au}{o:Oper}{s x:Operand}(ho:o.op=.call {callee:=.builtin .append,args:=#[s,x],argTypes:=#[38,38]})(hs:ρ s=v)(hv:Ow 64 2 dc b w v Z)
  {A:Option Addr} {m c:Nat} {l:List DM} (hx:ρ x=.slice A m c) (hB:Sl 2 dc w A m c l) (hl:Z.length+l.length<=1000) (hb:b<=w.heap.size):
  ∃v' w',(execOp ρ o).run ax w=.ok (.value v') w'/\Ow 64 2 dc b w' v' (Z++l)/\But (foot v) w w':=by
 obtain⟨v',w',hr,h2,h3,_⟩:=jq (P:=ax) Qm 38 o.type underlying38 Tryz.ZW rfl hv A m c l hB ae ae hb;refine⟨v',w',?_,h2,h3⟩;unfold execOp;simp only[ho,resolve,invoke,builtin,ayn,ayo,ayp,axF,awI,awY,hs,hx,hr]
theorem air(D:List DM)(DA:Option Addr)(dn jJ:Nat)(w:ak)(h:pV w DA dn jJ D)(hn:dn<=900):
  Calls ax 11 #[.slice DA dn jJ] w λe w'=>∃A' c',e=.returned (.slice A' dn c')/\pV w' A' dn c' D/\Ev w w':=by
 have ed:Tryz.prog.follows .mixedOrders=true:=ah;have hle:=h.sl.le;have hmx:=h.sl.max;have HL:=zq h.sl.len;have H:=zq h;clear h;go_enter func11,ntmps11;go_wp2
 go_loopw [3,4] (λov iv wr=>∃(k:Nat) (OA:Option Addr) (oc:Nat),ov=.slice OA k oc/\iv=↑k/\k<=dn/\Hid (Ow 64 2 dc w.heap.size wr (.slice OA k oc) (D.take k))/\Hid (Ev w wr)) (λ_ iv _=>dn-(intOf iv).toNat)
 case atStart=>exact⟨0,none,0,rfl,rfl,awJ _,zq (Ow.nil_ _),zq aK⟩
 case round=>
  obtain⟨k,OA,oc,rfl,rfl,hk,HS,HE⟩:=hrel;by_cases hlt:k<dn
  ·obtain⟨x,hx⟩:=H.out.sl.at hlt;obtain⟨b,off,rfl,hbl,x0,x1⟩:=H.out.cell hx;have i1:(0:Int)<=(k:Int):=ae;have i2:(k:Int)<(dn:Int):=ae;have jP:Hid (D.take (k+1)=D.take k++[x]):=zq (by
    obtain⟨hk2,e⟩:=awz.1 hx;rw[awH hk2,e])
   clear hx;go_upto_region 5 with fail
   refine jE ed (λu=>Ev w u) (λp _ _=>match p with|0=>True|_+1=>False) [13] (λp u=>match p with|0=>Ev wr u|_+1=>True) [12] [[13,14]] 13 [λv _=>v=.slice OA k oc,λv _=>v=.slice ↑(b,off) dn jJ,λv _=>v=↑k,λv _=>v=.pointer ↑(b,off+k*2),λv _=>v=.pointer ↑(b,off+k*2),λv _=>v=↑x.name,λv _=>v=.slice ↑(b,off) dn jJ,λv _=>v=↑k,λv _=>v=.pointer ↑(b,off+k*2),λv _=>v=.pointer ↑(b,off+k*2+1),λv _=>v=.slice x.A x.cols.length x.cap,λv _=>v=.agg #[↑x.name,.slice x.A x.cols.length x.cap],acU x,OwD w.heap.size (D.take k++[x]),OwD w.heap.size (D.take k++[x])]
    26 1 rfl ah ⟨az _,az _,az _,az _,az _,az _,az _,az _,az _,az _,az _,az _,acU.mono _,OwD.mono _ _,OwD.mono _ _,trivial⟩ ⟨aZ,aZ,aZ,aZ,aZ,aZ,aZ,aZ,aZ,aZ,aZ,aZ,Or.inl rfl,Or.inr λp=>match p with|0=>Or.inl rfl|_+1=>Or.inr λ_ _ _ hb h=>hb.elim,Or.inr λp=>match p with|0=>Or.inl rfl|_+1=>Or.inr λ_ _ _ hb h=>hb.elim,trivial⟩ ah rfl ah (λp u u' hE h=>(match p,h with|0,h=>Ev.trans h hE|_+1,_=>trivial)) (λu u' hE h=>h.trans hE) (HE.out) aK ah (λ_ _ _=>True) [] ah (λ_ _ _ _ _ _ _ _ _ _=>trivial) (λ_ _=>trivial) ?_ ?_ ?_ ?_
   ·refine aJ 0 ?_ (aJ 1 ?_ (aJ 2 ?_ (aJ 3 ?_ (aJ 4 ?_ (aJ 5 ?_ (aJ 6 ?_ (aJ 7 ?_ (aJ 8 ?_ (aJ 9 ?_ (aJ 10 ?_ (aJ 11 ?_ (aJ 12 ?_ (cO 13 ai (aJ 14 ?_ (oD 15)))))))))))))));refine bu λa wq c=>⟨(ay rfl),_,run_move _ rfl wq,(c.was 3 rfl)⟩
    refine bu λa wq c=>⟨(ay rfl),_,run_move _ rfl wq,(c.was 0 rfl)⟩
    refine bu λa wq c=>⟨(ay rfl),_,run_move _ rfl wq,(c.was 4 rfl)⟩
    ·refine bu λa wq c=>⟨(ay rfl),.pointer ↑(b,off+k*2),?_,rfl⟩
     have e12:a.eval (.tmp 12)=.slice ↑(b,off) dn jJ:=(c.new 1 12)
     have e13:a.eval (.tmp 13)=↑k:=(c.new 2 13)
     generalize a.eval=ρ at e12 e13|-;simp[execOp,e12,e13,go_sem,i1,i2]
    ·refine bu λa wq c=>⟨(ay rfl),.pointer ↑(b,off+k*2),?_,rfl⟩
     have e14:a.eval (.tmp 14)=.pointer ↑(b,off+k*2):=(c.new 3 14)
     generalize a.eval=ρ at e14|-;simp[execOp,e14,go_sem]
    ·refine bu λa wq c=>⟨(ay rfl),↑x.name,?_,rfl⟩
     have bC:a.eval (.tmp 15)=.pointer ↑(b,off+k*2):=(c.new 4 15)
     have hc:=(c.inv.cell (p:=⟨_,_,none⟩) hbl).trans x0;generalize a.eval=ρ at bC|-;simp[execOp,bC,hc,go_sem]
    refine bu λa wq c=>⟨(ay rfl),_,run_move _ rfl wq,(c.was 0 rfl)⟩
    refine bu λa wq c=>⟨(ay rfl),_,run_move _ rfl wq,(c.was 4 rfl)⟩
    ·refine bu λa wq c=>⟨(ay rfl),.pointer ↑(b,off+k*2),?_,rfl⟩
     have e17:a.eval (.tmp 17)=.slice ↑(b,off) dn jJ:=(c.new 6 17)
     have e18:a.eval (.tmp 18)=↑k:=(c.new 7 18)
     generalize a.eval=ρ at e17 e18|-;simp[execOp,e17,e18,go_sem,i1,i2]
    ·refine bu λa wq c=>⟨(ay rfl),.pointer ↑(b,off+k*2+1),?_,rfl⟩
     have e19:a.eval (.tmp 19)=.pointer ↑(b,off+k*2):=(c.new 8 19)
     generalize a.eval=ρ at e19|-;simp[execOp,e19,go_sem]
    ·refine bu λa wq c=>⟨(ay rfl),.slice x.A x.cols.length x.cap,?_,rfl⟩
     have bC:a.eval (.tmp 20)=.pointer ↑(b,off+k*2+1):=(c.new 9 20)
     have hc:=(c.inv.cell (p:=⟨_,_,none⟩) hbl).trans x1;generalize a.eval=ρ at bC|-;simp[execOp,bC,hc,go_sem]
    ·refine bu λa wq c=>⟨(ay rfl),.agg #[↑x.name,.slice x.A x.cols.length x.cap],?_,rfl⟩
     have e16:a.eval (.tmp 16)=↑x.name:=(c.new 5 16)
     have e21:a.eval (.tmp 21)=.slice x.A x.cols.length x.cap:=(c.new 10 21)
     generalize a.eval=ρ at e16 e21|-;simp[execOp,e16,e21,go_sem]
    ·refine uO λa wq c=>?_;have bC:a.eval (.tmp 22)=.agg #[↑x.name,.slice x.A x.cols.length x.cap]:=(c.new 11 22)
     refine⟨(ay rfl),.slice ↑wq 1 1,wq.alloc (.cells #[↑x.name,.slice x.A x.cols.length x.cap] 64),?_,Ev.alloc _ _,c.inv.trans (Ev.alloc wq _),⟨wq.heap.size,rfl,Sl.one (et:=64) Qm wq x _ rfl⟩⟩;generalize a.eval=ρ at bC|-;simp[execOp,bC,go_sem]
    refine bu λa wq c=>⟨(ay rfl),_,run_assign _ rfl wq,(c.new 13 24)⟩
   refine BF;refine fQ 0 rfl ?_ (pq 1);refine uP λa wq c st hg=>?_;have bC:a.eval (.tmp 11)=.slice OA k oc:=(c.new 0 11)
   obtain⟨g_,iO,hS_⟩:=(c.got 12 23 ah ah ah rfl:acU _ _ _)
   obtain⟨v_,w_,hr_,h1_,h2_⟩:=IL (o:=⟨some 24,_,_,_,_,_⟩) rfl bC (HS.out.ev (st:Ev wr wq)) iO hS_ (by rw[axa];simp;omega) (by have:=c.inv.size;exact this);exact⟨ay rfl,v_,w_,hr_,trivial,But.yx c.inv h2_ (λg hg=>((HS.out.ev (st:Ev wr wq)).lt (aG.1 hg)).1),trivial,h1_⟩;intro so w7 hI hold hnew hst;have hown:OwD w.heap.size (D.take k++[x]) (so 3) w7:=hnew 14 3;have f0:so 0=.slice ↑(b,off) dn jJ:=hold 0;have f1:_=undef:=hold 1;have f2:so 2=↑():=hold 2;have f4:so 4=↑k:=hold 4;have f25:_=undef:=hold 25;change Exit.inBlock _ _ .normal ⟨#[so 0,so 1,so 2,so 3,so 4,so 5,so 6,so 7,so 8,so 9,so 10,so 11,so 12,so 13,so 14,so 15,so 16,so 17,so 18,so 19,so 20,so 21,so 22,so 23,so 24,so 25],_⟩ _;simp only[f0,f1,f2,f4,f25];clear hold hnew hst;generalize so 5=u5,so 6=u6,so 7=u7,so 8=u8,so 9=u9,so 10=u10,so 11=u11,so 12=u12,so 13=u13,so 14=u14,so 15=u15,so 16=u16,so 17=u17,so 18=u18,so 19=u19,so 20=u20,so 21=u21,so 22=u22,so 23=u23,so 24=u24;rw[<-jP.out]at hown;obtain⟨A2,c2,hs3,_,_⟩:=Ow.form Qm hown;have hl2:(D.take (k+1)).length=k+1:=by rw[axa,HL.out];omega
   rw[hl2]at hs3;rw[hs3]at hown|-;have QR:=zq hown;have lH:=zq hI;clear hs3 hown hI hl2;go_wp2;go_roundw
   case rel=>exact⟨k+1,A2,c2,by go_num,by go_num,ae,QR,lH⟩
   case measure=>simp[intOf];omega
  obtain rfl:k=dn:=ae;obtain⟨A2,c2,hs3,hS,_⟩:=Ow.form Qm HS.out;have hf:D.take k=D:=awS (by rw[HL.out];exact awC _);rw[hf,HL.out]at hs3 hS;injection hs3 with e1 e2 e3
  subst e1 e3;go_wp2;go_ret;exact⟨_,_,rfl,⟨hS,λdd hd=>(H.out.cols dd hd).ev HE.out⟩,HE.out⟩
structure acV(D:List DM):Prop where
 name:∀d∈D,f_ ⟨d.name.toArray⟩=true
 cols:∀d∈D,qh d.cols=0
 small:∀d∈D,d.name.length<=1000/\∀c∈d.cols,c.1.size<=maxLen
 apart:∀(i j:Nat) (x y:DM),j<i->D[i]?=some x->D[j]?=some y->(y.name==x.name)=false
theorem acW(D:List DM)(DA:Option Addr)(dn jJ:Nat)(w:ak)(h:pV w DA dn jJ D)(hg:acV D):
  Calls ax 22 #[.slice DA dn jJ] w λe w'=>e=.returned (.int .i64 0)/\Ev w w':=by
 have hle:=h.sl.le;have hmx:=h.sl.max;have H:=zq h;have HG:=zq hg;clear h hg;go_enter func22,ntmps22;go_wp2
 go_loopw [3] (λiv wr=>∃k:Nat,k<=dn/\iv=↑k/\Hid (Ev w wr)) (λiv _=>dn-(intOf iv).toNat)
 case atStart=>exact⟨0,awJ _,rfl,zq aK⟩
 case round=>
  obtain⟨k,hk,rfl,HE⟩:=hrel;by_cases hlt:k<dn
  ·obtain⟨x,hx⟩:=H.out.sl.at hlt;obtain⟨b,off,rfl,hbl,x0,x1⟩:=(H.out.ev HE.out).cell hx;have HX:=zq hx;have i1:(0:Int)<=(k:Int):=ae;have i2:(k:Int)<(dn:Int):=ae;have gJ:=awG hx;have HNM:=zq (λw1=>yg ⟨x.name.toArray⟩ w1 (by have:=(HG.out.small x gJ).1;unfold maxLen;simp[ByteArray.size];omega));rw[HG.out.name x gJ]at HNM;have Si:=zq (λw1 (hE:Ev w w1)=>Qj w1 ((H.out.cols x gJ).ev hE) (HG.out.small x gJ).2);rw[HG.out.cols x gJ]at Si;clear hx gJ
   go_wp2_with ((with_reducible refine(HNM.out _).mono ?_);rintro e w1 ⟨rfl,aN⟩;have E1:=zq (HE.out.trans aN);have x0:=(aN.cell (p:=⟨b,off+k*2,none⟩) hbl).trans x0;have x1:=(aN.cell (p:=⟨b,off+k*2+1,none⟩) hbl).trans x1;have ais:=awU hbl aN.size;clear aN)
   clear HNM HE
   go_loopw [4] (λjv wr=>∃j:Nat,j<=k/\jv=↑j/\Hid (Ev w1 wr)) (λjv _=>k-(intOf jv).toNat)
   case atStart=>exact⟨0,awJ _,rfl,zq aK⟩
   case round=>
    obtain⟨j,hj,rfl,lH⟩:=hrel;by_cases hlt2:j<k
    ·obtain⟨y,hy⟩:=H.out.sl.at (show j<dn by omega);have hne:=HG.out.apart k j x y hlt2 HX.out hy;obtain⟨_,_,e5,_,y0,y1⟩:=(H.out.ev (E1.out.trans lH.out)).cell hy
     cases e5
     have x0:=(lH.out.cell (p:=⟨b,off+k*2,none⟩) ais).trans x0;have j1:(0:Int)<=(j:Int):=ae;have j2:(j:Int)<(k:Int):=ae;have j3:(j:Int)<(dn:Int):=ae;clear hy x1 y1;go_upto_region 9 with fail
     go_quiet (fail)
     generalize EJ:World.drewN _ _=wq;have hEQ:=zq (lH.out.trans (EJ▸Ev.drewN _ _));clear EJ x0 y0;go_wp2;go_roundw
     case rel=>exact⟨j+1,ae,by go_num,hEQ⟩
     case measure=>simp[intOf];omega
    obtain rfl:j=k:=ae;have x0:=(lH.out.cell (p:=⟨b,off+j*2,none⟩) ais).trans x0;have x1:=(lH.out.cell (p:=⟨b,off+j*2+1,none⟩) ais).trans x1;have j2:¬(j:Int)<(j:Int):=ae
    go_wp2_with ((with_reducible refine(Si.out _ (E1.out.trans lH.out)).mono ?_);rintro e w3 ⟨rfl,dV⟩;have E3:=zq ((E1.out.trans lH.out).trans dV);clear dV)
    go_roundw
    case rel=>exact⟨j+1,ae,by go_num,E3⟩
    case measure=>simp[intOf];omega
  obtain rfl:k=dn:=ae;go_wp2;go_ret;exact⟨rfl,HE.out⟩
def W_(p:Pl):List C×Int×ByteArray:=if ug p=[] then ([],12,⟨#[]⟩) else if (ckOf tuF p).why=0 then ((ckOf tuF p).cols,0,⟨#[]⟩) else ([],(ckOf tuF p).why,(ckOf tuF p).name)
def je(R:List C×Int×ByteArray)(w:ak)(e:Ending)(w':ak):Prop:=∃v,e=.returned (.tuple #[v,.int .i64 R.2.1,.string R.2.2])/\Ow 50 2 dM w.heap.size w' v R.1/\Ev w w'
theorem Yr(g:Nat):∀d∈zI g,0<d.cols.length/\d.cols.length<=6:=λd hd=>by unfold zI at hd;rcases awN.1 hd with rfl|hd;exact⟨by show 0<gZ.length;decide,by show gZ.length<=6;decide⟩;simp at hd;subst hd;exact⟨by show 0<nN.length;decide,by show nN.length<=6;decide⟩
theorem aiw(m:PM)(b0:Nat)(v:au)(w:ak)(hT:Tab w)(h:Qx b0 [] w m)(hg:m.p.good)(hsz:(aH m.p).size<=10000)(hlen:(printS (aH m.p)).length<=100000)(hv:Yp v w):
  Calls ax 7 #[.agg ↑m,v] w (je (W_ m.p) w):=by
 have ed:Tryz.prog.follows .mixedOrders=true:=ah;have Vg:=zq (λw1 (hE:Ev w w1)=>Yq v w1 (Yp.mono _ _ _ hE hv));have BR:=zq (λw1 (hE:Ev w w1)=>acX m b0 w1 (hT.ev hE) (h.ev hE) hg hsz hlen);have hfit:=Az _ hg hsz;obtain⟨g,rfl,hD⟩:=hv;have HOF:=zq (λw1 (hE:Ev w w1)=>ak' m.dep m b0 (zI g) (some ⟨g+2,0,none⟩) 2 2 w1 (awC _) (h.ev hE) hg hfit (hD.ev hE) (Yr g));rw[acS]at HOF;obtain⟨w0,hw0,aV,hB,_⟩:=vV w m;obtain⟨⟨p0,p1,p2,p3,p4,p5,p6,p7⟩,_⟩:=hB.eight;have HE:=zq aV;have HB:=zq hB;unfold pv fH.v PM.kv at BR;unfold kE at HOF;unfold W_ je;generalize ug m.p=PS at*;generalize ckOf tuF m.p=R at*;clear hT h hg hsz hlen hfit hD hB aV
 cases PS with
 | nil=>
  rw[if_pos rfl];go_enter func7,ntmps7
  go_wp2_with (first
   | ((with_reducible refine(Vg.out _ HE.out).mono ?_);rintro e w1 ⟨rfl,aN⟩;have E1:=zq (HE.out.trans aN);clear p0 p1 p2 p3 p4 p5 p6 p7;obtain⟨⟨p0,p1,p2,p3,p4,p5,p6,p7⟩,_⟩:=(HB.out.ev aN).eight;have sN:=zq (HB.out.ev aN);clear aN)
   | ((with_reducible refine(BR.out _ E1.out).mono ?_);rintro e w2 ⟨rfl,bM⟩;have E2:=zq (E1.out.trans bM);clear p0 p1 p2 p3 p4 p5 p6 p7;obtain⟨⟨p0,p1,p2,p3,p4,p5,p6,p7⟩,_⟩:=(sN.out.ev bM).eight;clear bM))
  go_ret3
  exact⟨_,rfl,Ow.nil_ _,E2.out⟩
 | cons x PS=>
  rw[if_neg aj];have hne:((⟨(x::PS).toArray⟩:ByteArray).toList==[])=false:=aj;by_cases hw:R.why=0
  ·rw[if_pos hw];have Nk:(R.why !=0)=false:=by simp[hw]
   go_enter func7,ntmps7
   go_wp2_with (first
    | ((with_reducible refine(Vg.out _ HE.out).mono ?_);rintro e w1 ⟨rfl,aN⟩;have E1:=zq (HE.out.trans aN);clear p0 p1 p2 p3 p4 p5 p6 p7;obtain⟨⟨p0,p1,p2,p3,p4,p5,p6,p7⟩,_⟩:=(HB.out.ev aN).eight;have sN:=zq (HB.out.ev aN);clear aN)
    | ((with_reducible refine(BR.out _ E1.out).mono ?_);rintro e w2 ⟨rfl,bM⟩;have E2:=zq (E1.out.trans bM);clear p0 p1 p2 p3 p4 p5 p6 p7;obtain⟨⟨p0,p1,p2,p3,p4,p5,p6,p7⟩,_⟩:=(sN.out.ev bM).eight;clear bM)
    | ((with_reducible refine(HOF.out _ E2.out).mono ?_);rintro e w3 ⟨v3,rfl,hO,qU,Fv⟩;obtain⟨vA,vc,rfl,lq,mW⟩:=hO.form iF;clear lq mW;have dV:=qU.ev (λk hk=>by cases hk);have E3:=zq (E2.out.trans dV);have HO:=zq (hO.wK (E2.out.size));clear hO qU Fv dV p0 p1 p2 p3 p4 p5 p6 p7))
   go_ret3
   exact⟨_,rfl,HO.out.ev aB,E3.out.trans aB⟩
  rw[if_neg hw];have Nk:(R.why !=0)=true:=by simp[hw]
  go_enter func7,ntmps7;go_upto_region 7 with (first
   | ((with_reducible refine(Vg.out _ HE.out).mono ?_);rintro e w1 ⟨rfl,aN⟩;have E1:=zq (HE.out.trans aN);clear p0 p1 p2 p3 p4 p5 p6 p7;obtain⟨⟨p0,p1,p2,p3,p4,p5,p6,p7⟩,_⟩:=(HB.out.ev aN).eight;have sN:=zq (HB.out.ev aN);clear aN)
   | ((with_reducible refine(BR.out _ E1.out).mono ?_);rintro e w2 ⟨rfl,bM⟩;have E2:=zq (E1.out.trans bM);clear p0 p1 p2 p3 p4 p5 p6 p7;obtain⟨⟨p0,p1,p2,p3,p4,p5,p6,p7⟩,_⟩:=(sN.out.ev bM).eight;clear bM)
   | ((with_reducible refine(HOF.out _ E2.out).mono ?_);rintro e w3 ⟨v3,rfl,hO,qU,Fv⟩;obtain⟨vA,vc,rfl,lq,mW⟩:=hO.form iF;clear lq mW;have dV:=qU.ev (λk hk=>by cases hk);have E3:=zq (E2.out.trans dV);have HO:=zq (hO.wK (E2.out.size));clear hO qU Fv dV p0 p1 p2 p3 p4 p5 p6 p7))
  have hRB:=Bx.new 58 #[.slice vA R.cols.length vc,↑R.why,.string R.name] w3;obtain⟨⟨g0,g1,g2⟩,_⟩:=hRB.three;clear hRB
  go_quiet (fail)
  go_wp2
  go_ret3
  exact⟨_,rfl,Ow.nil_ _,(E3.out.trans aB).trans (Ev.drewN _ _)⟩
theorem Pm{A B:Option Addr}{n cap cap':Nat}{l:List C}(w:ak)(h:Cs w A n cap l)(h':Cs w B n cap' l):
  Calls ax 12 #[.slice A n cap,.slice B n cap'] w λe w'=>e=.returned (.bool true)/\Ev w w':=by
 have hn:=h.le;have hm:=h.max;have hn':=h'.le;have hm':=h'.max;go_enter func12,ntmps12;go_wp2
 go_loopw [5] (λi wr=>∃k:Nat,k<=n/\i=↑k/\Ev w wr) (λi _=>n-(intOf i).toNat)
 case atStart=>exact⟨0,awJ _,rfl,Ev.refl _⟩
 case round=>
  obtain⟨k,hk,rfl,hE⟩:=hrel;by_cases hlt:k<n
  ·obtain⟨x,hx⟩:=(h.ev hE).at hlt;obtain⟨b1,off,rfl,c0,c1⟩:=Cs.qp (h.ev hE) hx;obtain⟨b2,off',rfl,d0,d1⟩:=Cs.qp (h'.ev hE) hx;have i1:(0:Int)<=(k:Int):=ae;have i2:(k:Int)<(n:Int):=ae;clear hx h h'
   go_wp2_with fail
   refine wp_region_quiet_lit ah ah ?_
   repeat (quiet_step (fail))
   refine wpQuiet_nil ?_;rintro _ ⟨nq,rfl⟩;go_wp2;go_roundw
   case rel=>exact⟨k+1,ae,by go_num,hE.trans (Ev.drewN _ _)⟩
   case measure=>simp[intOf];omega
  obtain rfl:k=n:=ae;go_wp2;go_ret;exact⟨rfl,hE⟩
def Pn(p:Pl)(w:ak)(e:Ending)(w':ak):Prop:=∃m:PM,e=.returned (.agg ↑m)/\m.p=p/\Qx 0 [] w' m/\Ev w w'
theorem Xi(s:By)(w:ak)(hs:s.length<=100000):Calls ax 8 #[↑s] w (Pn (dH s).1 w):=by
 have HR:=zq (λw1=>Yv s w1 hs);obtain⟨w0,hw0,aV,hB0,hs0⟩:=uF w;have ui:=zq hB0;have cu:=zq aV;obtain⟨⟨d0,d1,d2,d3,d4,d5,d6,d7⟩,r0,r1,r2,r3,r4,r5,r6,r7⟩:=hB0.eight;unfold bP at HR;unfold Pn;generalize dH s=R at*;obtain⟨Rp,Rw,Rx⟩:=R;simp only at HR|-;clear hB0 aV;go_enter func8,ntmps8
 go_wp2_with (first
  | ((with_reducible refine(HR.out _).mono ?_);rintro r w1 ⟨m,rfl,hmp,hmq,aN⟩;simp only[];obtain⟨w2,hw2,bM,hB2,_⟩:=vV w1 m;have E2:=zq (aN.trans bM);have HMP:=zq hmp;have HMQ:=zq ((hmq.ev bM).less (K':=[w.heap.size]) (λk hk=>by simp at hk;subst hk;exact .inr (.inl ae)));obtain⟨⟨p0,p1,p2,p3,p4,p5,p6,p7⟩,_⟩:=hB2.eight;clear d0 d1 d2 d3 d4 d5 d6 d7 r0 r1 r2 r3 r4 r5 r6 r7;obtain⟨⟨d0,d1,d2,d3,d4,d5,d6,d7⟩,r0,r1,r2,r3,r4,r5,r6,r7⟩:=(ui.out.ev E2.out).eight;have jV:=zq (ui.out.ev E2.out);clear hmp hmq aN bM hB2))
 (try simp only[Exit.inBlock,Exit.then]);rw[bH];refine ayr (aT rfl _ _ _ _ _ rfl (jV.out.iP _ _ _ _ _ _ _ _) underlying32 rfl Tryz.bY) rfl ?_;exact⟨m,rfl,HMP.out,((HMQ.out.move (dw _ _ _ _ _ _ _ _ _ _) λk hk=>.inl hk).less (K':=[]) λk hk=>by cases hk).low (awJ _),(cu.out.trans E2.out).box (dw _ _ _ _ _ _ _ _ _ _) (awC _)⟩
theorem ML(m:PM)(b0:Nat)(v:au)(w:ak)(hT:Tab w)(h:Qx b0 [] w m)(hm:m.p=iC)(hv:Yp v w):
  Calls ax 7 #[.agg ↑m,v] w (je ([],12,⟨#[]⟩) w):=by
 have Vg:=zq (λw1 (hE:Ev w w1)=>Yq v w1 (Yp.mono _ _ _ hE hv));have BR:=zq (λw1 (hE:Ev w w1)=>Z5 m b0 w1 (hT.ev hE) (h.ev hE) hm);obtain⟨g,rfl,hD⟩:=hv;obtain⟨w0,hw0,aV,hB,_⟩:=vV w m;obtain⟨⟨p0,p1,p2,p3,p4,p5,p6,p7⟩,_⟩:=hB.eight;have HE:=zq aV;have HB:=zq hB;unfold pv fH.v PM.kv at BR;unfold je;clear hT h hm hD hB aV;go_enter func7,ntmps7
 go_wp2_with (first
  | ((with_reducible refine(Vg.out _ HE.out).mono ?_);rintro e w1 ⟨rfl,aN⟩;have E1:=zq (HE.out.trans aN);clear p0 p1 p2 p3 p4 p5 p6 p7;obtain⟨⟨p0,p1,p2,p3,p4,p5,p6,p7⟩,_⟩:=(HB.out.ev aN).eight;have sN:=zq (HB.out.ev aN);clear aN)
  | ((with_reducible refine(BR.out _ E1.out).mono ?_);rintro e w2 ⟨rfl,bM⟩;have E2:=zq (E1.out.trans bM);clear p0 p1 p2 p3 p4 p5 p6 p7;obtain⟨⟨p0,p1,p2,p3,p4,p5,p6,p7⟩,_⟩:=(sN.out.ev bM).eight;clear bM))
 go_ret3
 exact⟨_,rfl,Ow.nil_ _,E2.out⟩
def Xj(s:By):List C×Int×ByteArray:=if (dH s).2.1=0 then W_ (dH s).1 else ([],12,⟨#[]⟩)
theorem Rt(s:By)(m:PM)(v:au)(w:ak)(hT:Tab w)(h:Qx 0 [] w m)(hm:m.p=(dH s).1)(hv:Yp v w):
  Calls ax 7 #[.agg ↑m,v] w (je (Xj s) w):=by
 unfold Xj;by_cases h0:(dH s).2.1=0;rw[if_pos h0];have hW:=MJ s h0;rw[<-hm]at hW|-;exact aiw m 0 v w hT h hW.wr.good (by have:=hW.wr.size;omega) (by have:=hW.ae8;omega) hv;rw[if_neg h0];exact ML m 0 v w hT h (hm.trans (UI s h0)) hv
theorem WrP.shown{p:Pl}(h:WrP p):ug p≠[]:=by unfold ug;rw[if_pos ⟨h.ae8,h.deep⟩];exact h.wr.ne
theorem WrP.W_{p:Pl}(h:WrP p):W_ p=if (ckOf tuF p).why=0 then ((ckOf tuF p).cols,0,⟨#[]⟩) else ([],(ckOf tuF p).why,(ckOf tuF p).name):=by unfold YtpbfokkocaemlaaGreatDoor.W_;rw[if_neg h.shown]
def q0(b:Nat)(m:PM):PM:=.mk 2 [] ⟨some ⟨b,0,none⟩,1,[.mk 2 [] 1 none 0 [] 0]⟩ .nil .nil .nil .nil (some ⟨b+1,0,none⟩) 1 [m]
def q1(b:Nat)(m:PM):PM:=.mk 6 [] .nil .nil .nil .nil .nil (some ⟨b+2,0,none⟩) 1 [m]
def q2(b:Nat)(m:PM):PM:=.mk 5 [] .nil .nil .nil .nil .nil (some ⟨b+3,0,none⟩) 2 [m,m]
def tk(pre:List C):List C->ByteArray
 | []=>⟨#[]⟩
 | c::r=>if (bZ pre c.1).isSome then c.1 else tk (pre++[c]) r
theorem CR.add_bad{r:CR}{nm:ByteArray}{k:Int}(h:r.why≠0):(r.add nm k).why=r.why/\(r.add nm k).name=r.name:=by unfold CR.add;simp only;split;rw[CR.jh h];exact⟨rfl,rfl⟩;exact⟨rfl,rfl⟩
theorem toList_data(s:ByteArray):s.toList=s.data.toList:=by obtain⟨⟨x⟩⟩:=s;simp
theorem adn{r:CR}(h:r.why≠0):r.limit.why=r.why/\r.limit.name=r.name:=by unfold CR.limit;split;rw[CR.jh h];exact⟨rfl,rfl⟩;exact⟨rfl,rfl⟩
def outT(r:CR):List C×Int×ByteArray:=if r.why=0 then (r.cols,0,⟨#[]⟩) else ([],r.why,r.name)
theorem Fb{r:CR}(h:r.why≠0):outT r=([],r.why,r.name):=if_neg h
theorem Yw{r:CR}(h:r.why=0):outT r=(r.cols,0,⟨#[]⟩):=if_pos h
theorem oI{r:CR}(h:r.why≠0):outT r.limit=([],r.why,r.name):=by have h1:=adn h;unfold outT;rw[if_neg (by rw[h1.1];exact h),h1.1,h1.2]
theorem CR.jo{r:CR}{y:Int}{s:ByteArray}(h:r.why=0):r.fail y s=⟨r.cols,y,s⟩:=by unfold CR.fail;rw[if_pos h]
theorem xN{r:CR}(h:r.why=0)(hl:6<r.cols.length):outT r.limit=([],23,⟨#[]⟩):=by unfold CR.limit;rw[if_pos hl,CR.jo h];rfl
theorem AZ{r:CR}(h:r.why=0)(hl:¬6<r.cols.length):outT r.limit=(r.cols,0,⟨#[]⟩):=by unfold CR.limit;rw[if_neg hl,Yw h]
theorem CR.wE{r:CR}{l:List C}{s:ByteArray}(h:r.why≠0):r.find l s=r:=by unfold CR.find;split;rfl;exact CR.jh h
theorem CR.ado{r:CR}{l:List C}{e:T}(h:r.why≠0):r.kind l e=r:=by unfold CR.kind;split;rfl;exact CR.jh h
theorem CR.Fe{r:CR}{l:List By}{s:ByteArray}(h:r.why≠0):r.once l s=r:=by unfold CR.once;split;exact CR.jh h;rfl
def tY{α:Type}(f:CR->α->CR):Prop:=∀r x,r.why≠0->(f r x).why=r.why/\(f r x).name=r.name
theorem tY.fold{α:Type}{f:CR->α->CR}(hf:tY f):∀(l:List α) (r:CR),r.why≠0->(l.foldl f r).why=r.why/\(l.foldl f r).name=r.name
 | [],r,_=>⟨rfl,rfl⟩
 | x::l,r,h=>by have h1:=hf r x h;have h2:=tY.fold hf l (f r x) (by rw[h1.1];exact h);rw[axT];exact⟨h2.1.trans h1.1,h2.2.trans h1.2⟩
theorem tY.stop{α:Type}{f:CR->α->CR}(hf:tY f){l:List α}{k:Nat}{x:α}{r:CR}{y:Int}{s:ByteArray}(hx:l[k]?=some x)(hy:y≠0)(h:(f ((l.take k).foldl f r) x).why=y/\(f ((l.take k).foldl f r) x).name=s):
  (l.foldl f r).why=y/\(l.foldl f r).name=s:=by
 have e:l.foldl f r=(l.drop (k+1)).foldl f ((l.take (k+1)).foldl f r):=by rw[<-axW,axs]
 rw[lU hx]at e;have h1:=hf.fold (l.drop (k+1)) (f ((l.take k).foldl f r) x) (by rw[h.1];exact hy);rw[e];exact⟨h1.1.trans h.1,h1.2.trans h.2⟩
theorem UL(kid:List C):tY (jr kid):=λr x h=>by unfold jr;rw[CR.ado h];exact CR.add_bad h
theorem CR.BK{r:CR}{nm:ByteArray}{k:Int}(h:r.why=0)(hf:(bZ r.cols nm).isSome=true):(r.add nm k).why=21/\(r.add nm k).name=nm:=by unfold CR.add;simp[hf,CR.jo h]
theorem CR.qI{r:CR}{nm:ByteArray}{k:Int}(hf:(bZ r.cols nm).isSome=false):(r.add nm k).why=r.why/\(r.add nm k).cols=r.cols++[(nm,k)]:=by unfold CR.add;simp[hf]
theorem Xk{kid:List C}{r:CR}{e:T}{s:By}(h:r.why=0)(ht:(xType kid e).2≠0):(jr kid r (e,s)).why=(xType kid e).2/\(jr kid r (e,s)).name=⟨#[]⟩:=by
 have e1:r.kind kid e=⟨r.cols,(xType kid e).2,⟨#[]⟩⟩:=by unfold CR.kind;rw[if_neg ht,CR.jo h]
 unfold jr;rw[e1];exact CR.add_bad ht
theorem UM{kid:List C}{r:CR}{e:T}{s:By}(h:r.why=0)(ht:(xType kid e).2=0)(hf:(bZ r.cols (aY s)).isSome=true):(jr kid r (e,s)).why=21/\(jr kid r (e,s)).name=aY s:=by
 have e1:r.kind kid e=r:=by unfold CR.kind;rw[if_pos ht]
 unfold jr;rw[e1];exact CR.BK h hf
theorem Xl{kid:List C}{r:CR}{e:T}{s:By}(ht:(xType kid e).2=0)(hf:(bZ r.cols (aY s)).isSome=false):(jr kid r (e,s)).why=r.why/\(jr kid r (e,s)).cols=r.cols++[(aY s,(xType kid e).1)]:=by
 have e1:r.kind kid e=r:=by unfold CR.kind;rw[if_pos ht]
 unfold jr;rw[e1];exact CR.qI hf
theorem qJ{b:Nat}{v v':au}{Z:List C}{w0 w w':ak}(hE:Ev w0 w)(ho:Ow 50 2 dM b w v Z)(hb:w0.heap.size<=b){Z':List C}(h:mf 50 2 dM b w v Z' v' w'):Ev w0 w':=
 But.yx hE h.2.1 λg hg=>aw0 hb (ho.lt (aG.1 hg)).1
theorem Il{α:Type}{f:CR->α->CR}(hf:∀r x,(f r x).cols.length=r.cols.length+1):∀(l:List α) (r:CR),(l.foldl f r).cols.length=r.cols.length+l.length
 | [],r=>rfl
 | x::l,r=>by rw[axT,Il hf l,hf,awR];omega
theorem UN(m:PM)(b0:Nat)(w:ak)(hQ:Qx b0 [] w m)(kid:List C)(A:Option Addr)(n cap:Nat)(hC:Cs w A n cap kid)(hel:m.ex.l.length=m.co.l.length)(hl:m.ex.l.length<=10000)(hfe:∀e∈m.ex.l,e.t.size<=100000/\e.t.every dh=true):
  Calls ax 45 #[.agg ↑m,.slice A n cap] w (je (outT (mM (m.ex.l.map M.t) m.co.l kid)) w):=by
 obtain⟨hex,hlx,xQ,_⟩:=hQ.at;obtain⟨w0,hw0,aV,o8,hs0⟩:=vV w m;have GL:Hid (∀w1,Ev w0 w1->Es w1 m.ex.A m.ex.l.length m.ex.cap m.ex.l):=zq λw1 hE=>hex.sl.ev (aV.trans hE);have EE:Hid (∀w1,Ev w0 w1->Ss w1 m.co.A m.co.l.length m.co.cap m.co.l):=zq λw1 hE=>xQ.sl.ev (aV.trans hE);have HTY:=zq (λe (he:e∈m.ex.l) w1 (hE:Ev w0 w1)=>XX e b0 w1 A n cap kid ((hlx e he).ev (aV.trans hE)) (hC.ev (aV.trans hE)) (hfe e he).1 (hfe e he).2);have rq:Hid (∀w1,Ev w0 w1->Bx 32 w.heap.size ↑m w1):=zq λw1 hE=>o8.ev hE;have cu:=zq aV;have afe:=hex.sl.le;have aoX:=hex.sl.max;have wH:=xQ.sl.le;have hcom:=xQ.sl.max;unfold mM je;obtain⟨L,hL⟩:∃L,L=(m.ex.l.map M.t).zip m.co.l:=⟨_,rfl⟩
 rw[<-hL];have HL:=zq hL;obtain⟨ne,hne⟩:∃ne,ne=m.ex.l.length:=⟨_,rfl⟩
 have uf:Hid (L.length=ne):=zq (by rw[hL,List.length_zip,awD,hne];omega);have Si:Hid (m.co.l.length=ne):=zq (by rw[hne,hel]);have Gt:Hid (∀k,k<=ne->((L.take k).foldl (jr kid) CR.zero).cols.length=k):=zq λk hk=>by rw[Il (λr x=>by unfold jr;rw[CR.nP,CR.yj];simp)];have h3:CR.zero.cols.length=0:=rfl;rw[h3,axa];have:=uf.out;omega
 obtain⟨⟨p0,p1,p2,p3,p4,p5,p6,p7⟩,_⟩:=(rq.out w0 aK).eight;rw[<-hne]at afe p2 hl;rw[Si.out]at wH p3;simp only[<-hne,Si.out]at rq GL EE hw0|-;clear hQ hex hlx xQ hC hfe aV o8 hs0 hel hL hne;generalize m.ex.A=exA at*;generalize m.co.A=coA at*;go_enter func45,ntmps45;go_wp2
 go_loopw [7,8] (λcv iv wr=>∃(k:Nat) (CA:Option Addr) (cc:Nat),cv=.slice CA k cc/\iv=↑k/\k<=ne/\Hid (Ow 50 2 dM w0.heap.size wr (.slice CA k cc) ((L.take k).foldl (jr kid) CR.zero).cols)/\Hid (((L.take k).foldl (jr kid) CR.zero).why=0)/\Hid (Ev w0 wr)) (λ_ iv _=>ne-(intOf iv).toNat)
 case atStart=>exact⟨0,none,0,rfl,rfl,awJ _,zq (Ow.nil_ _),zq rfl,zq aK⟩
 case round=>
  obtain⟨k,CA,cc,rfl,rfl,hk,HO,HY,HE⟩:=hrel;by_cases hlt:k<ne
  ·obtain⟨e,he⟩:=(GL.out wr HE.out).at hlt;obtain⟨s,hs⟩:∃s,m.co.l[k]?=some s:=⟨_,awX (by rw[Si.out];exact hlt)⟩
   have hz:=acJ he hs;rw[<-HL.out]at hz;have HST:Hid ((L.take (k+1)).foldl (jr kid) CR.zero=jr kid ((L.take k).foldl (jr kid) CR.zero) (e.t,s)):=zq (lU hz);have oJ:=zq (λy x hy h=>tY.stop (UL kid) (r:=CR.zero) (y:=y) (s:=x) hz hy h);have Og:=zq (Gt.out k ae);obtain⟨be,oe,rfl,_,e0,e1,e2,e3⟩:=Es.cell (GL.out wr HE.out) he;unfold M.kv at e3;have HCS:Hid (∀w1,Ev w0 w1->∃b off,coA=some ⟨b,off,none⟩/\w1.cell? ⟨b,off+k,none⟩=some ↑s):=zq λw1 hE=>Ss.qZ (EE.out w1 hE) hs;have HT:=zq (HTY.out e (awG he));unfold xZ M.kv at HT;obtain⟨⟨p0,p1,p2,p3,p4,p5,p6,p7⟩,_⟩:=(rq.out wr HE.out).eight;have i1:(0:Int)<=(k:Int):=ae;have i2:(k:Int)<(ne:Int):=ae;obtain⟨RK,Ru⟩:∃RK,RK=(L.take k).foldl (jr kid) CR.zero:=⟨_,rfl⟩
   rw[<-Ru]at HO HY HST oJ Og;have Ye:=zq (λ(h:(xType kid e.t).2≠0)=>Xk (s:=s) HY.out h);have HCN:=zq (λ(h:(xType kid e.t).2=0) hf=>UM (s:=s) HY.out h hf);have HCF:=zq (λ(h:(xType kid e.t).2=0) hf=>Xl (r:=RK) (s:=s) h hf);unfold aY at HCN HCF;have Xm:Hid (∀w1,Ev wr w1->Calls ax 87 #[.slice CA k cc,↑s] w1 λe w'=>e=.returned (.tuple #[.int .i64 (foundAt (bZ RK.cols ⟨s.toArray⟩)),.bool (bZ RK.cols ⟨s.toArray⟩).isSome])/\Ev w1 w'):=zq λw1 hE=>by
    obtain⟨A2,c2,hv,hS,_⟩:=Ow.form iF HO.out;injection hv with h1 h2 h3
    rw[Og.out,<-h1,<-h3]at hS;exact og _ w1 (hS.ev hE)
   generalize xType kid e.t=TY at*;obtain⟨T1,T2⟩:=TY;simp only at HT Ye HCN HCF;generalize bZ RK.cols ⟨s.toArray⟩=FC at*;generalize foundAt FC=FI at*;generalize FC.isSome=FB at*;clear he hs hz Ru;by_cases hT:T2=0
   ·subst hT
    cases FB
    ·have alS:=zq (HCF.out rfl rfl);clear Ye HCN HCF
     go_wp2_with (first
      | ((with_reducible refine(HT.out _ HE.out).mono ?_);rintro r_ w2 ⟨rfl,bM⟩;have E2:=zq bM;have E2':=zq (HE.out.trans bM);obtain⟨⟨q0,q1,q2,q3,q4,q5,q6,q7⟩,_⟩:=(rq.out w2 (HE.out.trans bM)).eight;obtain⟨bc,oc,rfl,hcs⟩:=HCS.out w2 (HE.out.trans bM);clear bM e0 e1 e2 e3 p0 p1 p2 p3 p4 p5 p6 p7)
      | ((with_reducible refine(Xm.out _ E2.out).mono ?_);rintro r_ w3 ⟨rfl,dV⟩;have E3:=zq (E2.out.trans dV);have E3':=zq (E2'.out.trans dV);obtain⟨⟨q0,q1,q2,q3,q4,q5,q6,q7⟩,_⟩:=(rq.out w3 (E2'.out.trans dV)).eight;obtain⟨_,_,e5,hcs⟩:=HCS.out w3 (E2'.out.trans dV);cases e5;clear dV)
      | ((show wpList _ _ _ (⟨some 58,_,_,_,_,_⟩::_) _ _);refine aO (o:=⟨some 58,_,_,_,_,_⟩) rfl 24 (.tmp 49) (.tmp 57) rfl iF underlying24 Tryz.o9 rfl rfl ((HO.out.ev E3.out).ev aB) ↑w3 1 1 [(⟨s.toArray⟩,T1)] rfl (by have:=Sl.one (et:=50) iF w3 (((⟨s.toArray⟩:ByteArray),T1):C) #[↑s,↑T1] rfl;simpa using this) (by rw[Og.out];simp;omega) (by rw[Og.out];simp;omega) (by have h1:=E3'.out.size;simp;omega) ?_;intro v2 w7 dY;have hE7:=zq (qJ (E3'.out.trans aB) ((HO.out.ev E3.out).ev aB) (awC _) dY);obtain⟨A2,c2,rfl,_,_⟩:=dY.1.form iF;have QR:=zq dY.1;clear dY))
     go_roundw
     case rel=>
      have h1:=QR.out;rw[awE,Og.out]at h1;have hl2:(RK.cols++[((⟨s.toArray⟩:ByteArray),T1)]).length=k+1:=by rw[awE,Og.out];rfl
      exact⟨k+1,A2,c2,by rw[Og.out],by go_num,ae,zq (by rw[HST.out,alS.out.2];exact h1),zq (by rw[HST.out,alS.out.1];exact HY.out),hE7⟩
     case measure=>simp[intOf];omega
    have aiI:=zq (oJ.out 21 _ ai (HCN.out rfl rfl));have HR:=zq (oI (r:=L.foldl (jr kid) CR.zero) (by rw[aiI.out.1];decide));rw[aiI.out.1,aiI.out.2]at HR;clear Ye HCN HCF;go_upto_region 10 with (first
     | ((with_reducible refine(HT.out _ HE.out).mono ?_);rintro r_ w2 ⟨rfl,bM⟩;have E2:=zq bM;have E2':=zq (HE.out.trans bM);obtain⟨⟨q0,q1,q2,q3,q4,q5,q6,q7⟩,_⟩:=(rq.out w2 (HE.out.trans bM)).eight;obtain⟨bc,oc,rfl,hcs⟩:=HCS.out w2 (HE.out.trans bM);clear bM e0 e1 e2 e3 p0 p1 p2 p3 p4 p5 p6 p7)
     | ((with_reducible refine(Xm.out _ E2.out).mono ?_);rintro r_ w3 ⟨rfl,dV⟩;have E3':=zq (E2'.out.trans dV);obtain⟨⟨q0,q1,q2,q3,q4,q5,q6,q7⟩,_⟩:=(rq.out w3 (E2'.out.trans dV)).eight;obtain⟨_,_,e5,hcs⟩:=HCS.out w3 (E2'.out.trans dV);cases e5;clear dV))
    go_quiet (fail)
    go_wp2
    go_ret3
    rw[HR.out];exact⟨_,rfl,Ow.nil_ _,(cu.out.trans E3'.out).trans (Ev.drewN _ _)⟩
   have hTb:(T2 !=0)=true:=axI.2 hT;have aiJ:=zq (oJ.out T2 _ hT (Ye.out hT));have HR:=zq (oI (r:=L.foldl (jr kid) CR.zero) (by rw[aiJ.out.1];exact hT));rw[aiJ.out.1,aiJ.out.2]at HR;clear Ye HCN HCF hT
   go_wp2_with (first
    | ((with_reducible refine(HT.out _ HE.out).mono ?_);rintro r_ w2 ⟨rfl,bM⟩;have E2':=zq (HE.out.trans bM);clear bM))
   go_ret3
   rw[HR.out];exact⟨_,rfl,Ow.nil_ _,cu.out.trans E2'.out⟩
  obtain rfl:k=ne:=ae;have HTk:Hid (L.take k=L):=zq (awS (by rw[uf.out];exact awC _));have Og:=zq (Gt.out k (awC _));rw[HTk.out]at HO HY Og;obtain⟨RK,Ru⟩:∃RK,RK=L.foldl (jr kid) CR.zero:=⟨_,rfl⟩
  rw[<-Ru]at HO HY Og;have HRK:=zq Ru;clear Ru;obtain⟨⟨p0,p1,p2,p3,p4,p5,p6,p7⟩,_⟩:=(rq.out wr HE.out).eight;by_cases h6:6<k
  ·have i6:(6:Int)<(k:Int):=ae;have HR:=zq (xN HY.out (by rw[Og.out];exact h6));rw[HRK.out]at HR;go_wp2
   go_ret3
   rw[HR.out];exact⟨_,rfl,Ow.nil_ _,cu.out.trans HE.out⟩
  have i6:¬(6:Int)<(k:Int):=ae;have HR:=zq (AZ HY.out (by rw[Og.out];exact h6));have HR:Hid (outT (L.foldl (jr kid) CR.zero).limit=(RK.cols,0,⟨#[]⟩)):=zq (by rw[<-HRK.out];exact HR.out);go_wp2
  go_ret3
  rw[HR.out];exact⟨_,rfl,HO.out.wK cu.out.size,cu.out.trans HE.out⟩
def cT:By:=[40,116,97,98,108,101,32,116,41]
def cU:By:=[40,116,97,98,108,101,32,117,41]
def cG:By:=[40,103,114,111,117,112,32]
def cP:By:=[40,112,114,111,106,101,99,116,32]
def cJ:By:=[40,106,111,105,110,32,40]
def cF:By:=[40,102,105,108,116,101,114,32]
def cN:By:=[32,99,111,117,110,116,41,32]
def cM:By:=[40,117,110,105,111,110,32]
def cA:By:=[40,97,32,97,41,32]
def kX:List By:=[cT,[40,116,97,98,108,101,32,120,41],cF++[97,32]++cT++[41],cF++[115,32]++cT++[41],cF++[120,32]++cT++[41],cF++[40,97,100,100,32,97,32,115,41,32]++cT++[41],cP++[40,97,32,98,41,32]++cT++[41],cP++[40,97,32,98,41,32]++cA++cT++[41],cP++[40,122,32,40,99,97,116,32,115,32,115,41,41,32,40,121,32,40,108,101,110,32,115,41,41,32]++cT++[41],cP++[40,122,32,120,41,32]++cT++[41],cP++cA++[40,98,32,97,41,32,40,99,32,97,41,32,40,100,32,97,41,32,40,101,32,97,41,32,40,102,32,97,41,32]++cT++[41],cP++cA++[40,98,32,97,41,32,40,99,32,97,41,32,40,100,32,97,41,32,40,101,32,97,41,32,40,102,32,97,41,32,40,103,32,97,41,32]++cT++[41],cJ++[97,41,32,40,97,41,32]++cT++[32]++cU++[41],cJ++[97,32,98,41,32,40,97,32,99,41,32]++cT++[32]++cU++[41],cJ++[97,41,32,40,97,32,99,41,32]++cT++[32]++cU++[41],cJ++[41,32,40,41,32]++cT++[32]++cU++[41],cJ++[120,41,32,40,97,41,32]++cT++[32]++cU++[41],cJ++[97,41,32,40,120,41,32]++cT++[32]++cU++[41],cJ++[97,32,97,41,32,40,97,32,99,41,32]++cT++[32]++cU++[41],cJ++[97,32,98,41,32]++cA++cT++[32]++cU++[41],cJ++[115,41,32,40,97,41,32]++cT++[32]++cU++[41],cJ++[97,41,32,40,97,41,32]++cT++[32]++cT++[41],cJ++[97,41,32,40,99,41,32]++cT++[32]++cU++[41],cJ++[97,41,32,40,97,41,32]++cP++cA++[40,112,32,97,41,32,40,113,32,97,41,32,40,114,32,97,41,32]++cT++[41,32]++cP++cA++[40,118,32,97,41,32,40,119,32,97,41,32,40,120,32,97,41,32]++cT++[41,41],cM++cT++[32]++cU++[41],cM++cU++[32]++cP++[40,120,32,98,41,32,40,121,32,97,41,32]++cT++[41,41],cM++cP++[40,120,32,115,41,32]++cT++[41,32]++cP++[40,121,32,97,41,32]++cT++[41,41],[40,100,105,115,116,105,110,99,116,32]++cU++[41],cG++[40,97,41,32,40,110]++cN++cT++[41],cG++[40,41,32,40,110]++cN++[40,109,32,115,117,109,32,98,41,32]++cT++[41],cG++[40,97,41,32,40,110,32,115,117,109,32,115,41,32]++cT++[41],cG++[40,97,41,32,40,110,32,109,105,110,32,115,41,32]++cT++[41],cG++[40,120,41,32,40,110]++cN++cT++[41],cG++cA++cT++[41],cG++[40,97,41,32,40,110,32,109,97,120,32,120,41,32]++cT++[41],cG++[40,41,32]++cT++[41],cG++[40,97,32,98,32,115,41,32,40,110]++cN++[40,109]++cN++[40,111]++cN++[40,112]++cN++cT++[41],cG++[40,97,41,32,40,110]++cN++[40,110]++cN++cT++[41],cF++[120,32]++cF++[121,32,40,116,97,98,108,101,32,122,41,41,41],cM++[40,116,97,98,108,101,32,120,41,32,40,116,97,98,108,101,32,121,41,41]]
theorem aiK:kX.length=40:=rfl
theorem afD:kX.map (λs=>(dH s).2.1)=kX.map (λ_=>0):=ah
theorem afE:kX.map (λs=>dH (printS (aH (dH s).1)))=kX.map (λs=>((dH s).1,0,0)):=ah
theorem Xn{α β:Type}{f g:α->β}:∀{l:List α},l.map f=l.map g->∀x∈l,f x=g x
 | a::l,h,x,hx=>by simp only[awI,List.cons.injEq]at h;rcases awN.1 hx with rfl|hx;exact h.1;exact Xn h.2 x hx
theorem adp:kX.all (λs=>decide (s.length<=600))=true:=by decide+kernel
theorem alU{s:By}(hs:s∈kX):s.length<=600/\WrP (dH s).1/\dH (printS (aH (dH s).1))=((dH s).1,0,0)/\Xj s=outT (ckOf tuF (dH s).1):=by have h0:(dH s).2.1=0:=Xn afD s hs;have hW:=MJ s h0;refine⟨ax1 (awW.1 adp s hs),hW,Xn afE s hs,?_⟩;unfold Xj outT;rw[if_pos h0,hW.W_]
theorem Jm{l:List C}{s:ByteArray}(h:(bZ l s).isSome=true):∃(i:Nat) (c:C),bZ l s=some i/\l[i]?=some c/\foundAt (bZ l s)=(i:Int)/\dL l s=c.2:=by
 cases hf:bZ l s with
 | none=>rw[hf]at h;cases h
 | some i=>
  have hf2:=hf;unfold bZ at hf2;rw[axH]at hf2;obtain⟨hi,_⟩:=hf2;refine⟨i,l[i],rfl,awX hi,rfl,?_⟩;unfold dL;rw[hf];simp[awX hi]
theorem Yx{l:List By}{k:Nat}{x:By}(h:l[k]?=some x):l.getD k []=x:=by rw[axD,h];rfl
section
variable {lf rt:List By} {a b:List C} {r:CR} {k:Nat} {l m:By}
theorem UO(lf rt:List By)(a b:List C):tY (iR lf rt a b):=λr i h=>by unfold iR;simp only[CR.wE h,CR.Fe h,CR.jh h,ite_self];exact⟨trivial,trivial⟩
theorem BL{r:CR}{y:Int}{s:ByteArray}(h:r.why=0)(hy:y≠0):(r.fail y s).why≠0:=by rw[CR.jo h];exact hy
theorem CR.find_ok{r:CR}{l:List C}{s:ByteArray}(h:(bZ l s).isSome=true):r.find l s=r:=by unfold CR.find;rw[if_pos h]
theorem CR.Ff{r:CR}{l:List C}{s:ByteArray}(h:(bZ l s).isSome=false):r.find l s=r.fail 20 s:=by unfold CR.find;rw[if_neg (by rw[h];decide)]
theorem CR.Fg{r:CR}{l:List By}{s:ByteArray}(h:oL l s=false):r.once l s=r:=by unfold CR.once;rw[if_neg (by rw[h];decide)]
theorem CR.Yy{r:CR}{l:List By}{s:ByteArray}(h:oL l s=true):r.once l s=r.fail 21 s:=by unfold CR.once;rw[if_pos h]
theorem aai(h:r.why=0)(hl:lf.getD k []=l)(hm:rt.getD k []=m)(ha:(bZ a (aY l)).isSome=false):(iR lf rt a b r k).why=20/\(iR lf rt a b r k).name=aY l:=by have h1:=BL (r:=r) (s:=aY l) (y:=20) h ai;unfold iR;simp only[hl,hm,CR.Ff ha,CR.wE h1,CR.Fe h1,CR.jh h1,ite_self];rw[CR.jo h];exact⟨rfl,rfl⟩
theorem aaj(h:r.why=0)(hl:lf.getD k []=l)(hm:rt.getD k []=m)(ha:(bZ a (aY l)).isSome=true)(hb:(bZ b (aY m)).isSome=false):(iR lf rt a b r k).why=20/\(iR lf rt a b r k).name=aY m:=by have h1:=BL (r:=r) (s:=aY m) (y:=20) h ai;unfold iR;simp only[hl,hm,CR.find_ok ha,CR.Ff hb,CR.Fe h1,CR.jh h1,ite_self];rw[CR.jo h];exact⟨rfl,rfl⟩
theorem Xo(h:r.why=0)(hl:lf.getD k []=l)(hm:rt.getD k []=m)(ha:(bZ a (aY l)).isSome=true)(hb:(bZ b (aY m)).isSome=true)(h3:oL (lf.take k) (aY l)=true):(iR lf rt a b r k).why=21/\(iR lf rt a b r k).name=aY l:=by have h1:=BL (r:=r) (s:=aY l) (y:=21) h ai;unfold iR;simp only[hl,hm,CR.find_ok ha,CR.find_ok hb,CR.Yy h3,CR.Fe h1,CR.jh h1,ite_self];rw[CR.jo h];exact⟨rfl,rfl⟩
theorem Xp(h:r.why=0)(hl:lf.getD k []=l)(hm:rt.getD k []=m)(ha:(bZ a (aY l)).isSome=true)(hb:(bZ b (aY m)).isSome=true)(h3:oL (lf.take k) (aY l)=false)(h4:oL (rt.take k) (aY m)=true):(iR lf rt a b r k).why=21/\(iR lf rt a b r k).name=aY m:=by have h1:=BL (r:=r) (s:=aY m) (y:=21) h ai;unfold iR;simp only[hl,hm,CR.find_ok ha,CR.find_ok hb,CR.Fg h3,CR.Yy h4,CR.jh h1,ite_self];rw[CR.jo h];exact⟨rfl,rfl⟩
theorem Xq(h:r.why=0)(hl:lf.getD k []=l)(hm:rt.getD k []=m)(ha:(bZ a (aY l)).isSome=true)(hb:(bZ b (aY m)).isSome=true)(h3:oL (lf.take k) (aY l)=false)(h4:oL (rt.take k) (aY m)=false)(h5:¬dL a (aY l)=dL b (aY m)):(iR lf rt a b r k).why=22/\(iR lf rt a b r k).name=aY l:=by unfold iR;simp only[hl,hm,CR.find_ok ha,CR.find_ok hb,CR.Fg h3,CR.Fg h4];rw[if_neg h5,CR.jo h];exact⟨rfl,rfl⟩
theorem adq(hl:lf.getD k []=l)(hm:rt.getD k []=m)(ha:(bZ a (aY l)).isSome=true)(hb:(bZ b (aY m)).isSome=true)(h3:oL (lf.take k) (aY l)=false)(h4:oL (rt.take k) (aY m)=false)(h5:dL a (aY l)=dL b (aY m)):iR lf rt a b r k=r:=by unfold iR;simp only[hl,hm,CR.find_ok ha,CR.find_ok hb,CR.Fg h3,CR.Fg h4];rw[if_pos h5]
end
theorem Fh(rt:List By):tY (gQ rt):=λr c h=>by unfold gQ;split;exact⟨rfl,rfl⟩;exact CR.add_bad h
theorem aak{lf rt:List By}{a b:List C}{k nl:Nat}{y:Int}{s:ByteArray}(hk:k<nl)(hy:y≠0)(h0:(List.range k).foldl (iR lf rt a b) (CR.of a)=CR.of a)(h:(iR lf rt a b (CR.of a) k).why=y/\(iR lf rt a b (CR.of a) k).name=s):
  outT ((b.foldl (gQ rt) ((List.range nl).foldl (iR lf rt a b) (CR.of a))).limit)=([],y,s):=by
 have h1:=tY.stop (UO lf rt a b) (l:=List.range nl) (k:=k) (x:=k) (r:=CR.of a) (y:=y) (s:=s) (by simp[hk]) hy (by rw[List.take_range,Nat.min_eq_left ae,h0];exact h);have h2:=(Fh rt).fold b ((List.range nl).foldl (iR lf rt a b) (CR.of a)) (by rw[h1.1];exact hy);rw[oI (by rw[h2.1,h1.1];exact hy),h2.1,h2.2,h1.1,h1.2]
theorem Xr{rt:List By}{r:CR}{c:C}(h:oL rt c.1=true):gQ rt r c=r:=by unfold gQ;rw[if_pos h]
theorem Xt{rt:List By}{r:CR}{c:C}(h:oL rt c.1=false):gQ rt r c=r.add c.1 c.2:=by unfold gQ;rw[if_neg (by rw[h];decide)]
theorem UQ(m:PM)(b0:Nat)(w:ak)(hQ:Qx b0 [] w m)(a b:List C)(AA BA:Option Addr)(an WH bn adr:Nat)(hj:¬(m.lf.l.length=m.rt.l.length/\m.lf.l.length≠0)):
  Calls ax 46 #[.agg ↑m,.slice AA an WH,.slice BA bn adr] w (je (outT (lT m.lf.l m.rt.l a b)) w):=by
 have hR:outT (lT m.lf.l m.rt.l a b)=([],23,⟨#[]⟩):=by unfold lT;rw[if_neg hj,CR.jo rfl];rfl
 rw[hR];unfold je;obtain⟨w0,hw0,aV,o8,hs0⟩:=vV w m;obtain⟨⟨p0,p1,p2,p3,p4,p5,p6,p7⟩,_⟩:=o8.eight;have cu:=zq aV;clear hQ aV o8 hs0 hR;generalize m.lf.l.length=nl at*;generalize m.rt.l.length=nr at*;by_cases h1:nl=nr
 ·subst h1;have hn:nl=0:=ae;subst hn;go_enter func46,ntmps46;go_wp2
  go_ret3
  exact⟨_,rfl,Ow.nil_ _,cu.out⟩
 have i1:¬((nl:Int)=(nr:Int)):=ae;have i2:((nl:Int)==(nr:Int))=false:=awy.2 i1;have i3:((nl:Int) !=(nr:Int))=true:=by simp;omega
 have i4:(nl==nr)=false:=awy.2 h1;have i5:(nl !=nr)=true:=by simp[h1]
 go_enter func46,ntmps46;go_wp2
 go_ret3
 exact⟨_,rfl,Ow.nil_ _,cu.out⟩
theorem aBu(h:U:=by
 go_quiet (fail)
 go_wp2
 go_ret3
 rw[HF.out];exact⟨_,rfl,Ow.nil_ _,(cu.out.trans E2.out).trans (Ev.drewN _ _)⟩):U:=h
theorem aBv(h:U:=by
 go_quiet (fail)
 go_wp2
 go_ret3
 rw[HF.out];exact⟨_,rfl,Ow.nil_ _,(cu.out.trans E3.out).trans (Ev.drewN _ _)⟩):U:=h
theorem Xu(m:PM)(b0:Nat)(w:ak)(hQ:Qx b0 [] w m)(a b:List C)(AA BA:Option Addr)(an WH bn adr:Nat)(hCa:Cs w AA an WH a)(hCb:Cs w BA bn adr b)(jg:m.lf.l.length<=10000)(han:an<=1000)(hbn:bn<=1000)(hj:m.lf.l.length=m.rt.l.length/\m.lf.l.length≠0):
  Calls ax 46 #[.agg ↑m,.slice AA an WH,.slice BA bn adr] w (je (outT (lT m.lf.l m.rt.l a b)) w):=by
 obtain⟨_,_,_,pJ,hrt,_⟩:=hQ.at;obtain⟨w0,hw0,aV,o8,hs0⟩:=vV w m;have AP:Hid (∀w1,Ev w0 w1->Cs w1 AA an WH a):=zq λw1 hE=>hCa.ev (aV.trans hE);have uQ:Hid (∀w1,Ev w0 w1->Cs w1 BA bn adr b):=zq λw1 hE=>hCb.ev (aV.trans hE);have zS:Hid (∀w1,Ev w0 w1->Ss w1 m.lf.A m.lf.l.length m.lf.cap m.lf.l):=zq λw1 hE=>pJ.sl.ev (aV.trans hE);have zG:Hid (∀w1,Ev w0 w1->Ss w1 m.rt.A m.rt.l.length m.rt.cap m.rt.l):=zq λw1 hE=>hrt.sl.ev (aV.trans hE);have rq:Hid (∀w1,Ev w0 w1->Bx 32 w.heap.size ↑m w1):=zq λw1 hE=>o8.ev hE;have cu:=zq aV;have acL:=pJ.sl.le;have ak0:=pJ.sl.max;have apG:=hrt.sl.le;have au7:=hrt.sl.max;have au8:=hCa.le;have au9:=hCa.max;have hcbl:=hCb.le;have au_:=hCb.max;have Iu:=zq hCa.len;have TV:=zq hCb.len;have hck:lT m.lf.l m.rt.l a b=(b.foldl (gQ m.rt.l) ((List.range m.lf.l.length).foldl (iR m.lf.l m.rt.l a b) (CR.of a))).limit:=if_pos hj;rw[hck];unfold je;obtain⟨YY,hj2⟩:=hj;obtain⟨⟨q0,q1,q2,q3,q4,q5,q6,q7⟩,_⟩:=(rq.out w0 aK).eight;obtain⟨nl,hnl⟩:∃nl,nl=m.lf.l.length:=⟨_,rfl⟩
 have HNR:Hid (m.rt.l.length=nl):=zq (by rw[hnl,YY]);rw[HNR.out]at apG q5;rw[<-hnl]at acL q4 jg hj2;simp only[<-hnl,HNR.out]at rq zS zG hw0|-;clear hQ pJ hrt hCa hCb aV o8 hs0 YY hck hnl;generalize m.lf.l=lf at*;generalize m.rt.l=rt at*;generalize m.lf.A=lA at*;generalize m.rt.A=rA at*;have n1:¬((nl:Int)=0):=ae;have n2:((nl:Int)==0)=false:=awy.2 n1;have n3:(nl==0)=false:=awy.2 hj2;go_enter func46,ntmps46;go_wp2;clear q0 q1 q2 q3 q4 q5 q6 q7
 go_loopw [9] (λiv wr=>∃k:Nat,iv=↑k/\k<=nl/\Hid ((List.range k).foldl (iR lf rt a b) (CR.of a)=CR.of a)/\Hid (Ev w0 wr)) (λiv _=>nl-(intOf iv).toNat)
 case atStart=>exact⟨0,rfl,awJ _,zq rfl,zq aK⟩
 case round=>
  obtain⟨k,rfl,hk,HR,HE⟩:=hrel;by_cases hlt:k<nl
  ·obtain⟨l,hl⟩:=(zS.out wr HE.out).at hlt;obtain⟨r,hr⟩:=(zG.out wr HE.out).at hlt;obtain⟨bl,ol,rfl,_⟩:=Ss.qZ (zS.out wr HE.out) hl;obtain⟨br,or_,rfl,_⟩:=Ss.qZ (zG.out wr HE.out) hr;have O8:Hid (∀w1,Ev w0 w1->w1.cell? ⟨bl,ol+k,none⟩=some ↑l):=zq λw1 hE=>by obtain⟨_,_,e,h⟩:=Ss.qZ (zS.out w1 hE) hl;cases e;exact h
   have HRC:Hid (∀w1,Ev w0 w1->w1.cell? ⟨br,or_+k,none⟩=some ↑r):=zq λw1 hE=>by obtain⟨_,_,e,h⟩:=Ss.qZ (zG.out w1 hE) hr;cases e;exact h
   have Ij:=zq (λw1 (hE:Ev w0 w1)=>og ⟨l.toArray⟩ w1 (AP.out w1 hE));have HFB:=zq (λw1 (hE:Ev w0 w1)=>og ⟨r.toArray⟩ w1 (uQ.out w1 hE));have HH1:=zq (λw1 (hE:Ev w0 w1)=>Jl (lf.take k) ↑(bl,ol) k m.lf.cap ⟨l.toArray⟩ w1 ((zS.out w1 hE).to k ae));have HH2:=zq (λw1 (hE:Ev w0 w1)=>Jl (rt.take k) ↑(br,or_) k m.rt.cap ⟨r.toArray⟩ w1 ((zG.out w1 hE).to k ae));have HJK:=zq (λy s hy h=>aak (lf:=lf) (rt:=rt) (a:=a) (b:=b) (y:=y) (s:=s) hlt hy HR.out h);have hl2:=Yx hl;have hr2:=Yx hr;have AO:=zq (λha=>HJK.out _ _ ai (aai (a:=a) (b:=b) (r:=CR.of a) rfl hl2 hr2 ha));have HNB:=zq (λha hb=>HJK.out _ _ ai (aaj (a:=a) (b:=b) (r:=CR.of a) rfl hl2 hr2 ha hb));have HHA:=zq (λha hb h3=>HJK.out _ _ ai (Xo (a:=a) (b:=b) (r:=CR.of a) rfl hl2 hr2 ha hb h3));have HHB:=zq (λha hb h3 h4=>HJK.out _ _ ai (Xp (a:=a) (b:=b) (r:=CR.of a) rfl hl2 hr2 ha hb h3 h4));have uT:=zq (λha hb h3 h4 h5=>HJK.out _ _ ai (Xq (a:=a) (b:=b) (r:=CR.of a) rfl hl2 hr2 ha hb h3 h4 h5));have HKO:=zq (λha hb h3 h4 h5=>adq (a:=a) (b:=b) (r:=CR.of a) hl2 hr2 ha hb h3 h4 h5);have HTA:=zq (Jm (l:=a) (s:=aY l));have HTB:=zq (Jm (l:=b) (s:=aY r));unfold aY at AO HNB HHA HHB uT HKO HTA HTB;have i1:(0:Int)<=(k:Int):=ae;have i2:(k:Int)<(nl:Int):=ae;have i3:(k:Int)<=(m.lf.cap:Int):=ae;have i4:(k:Int)<=(m.rt.cap:Int):=ae;obtain⟨⟨q0,q1,q2,q3,q4,q5,q6,q7⟩,_⟩:=(rq.out wr HE.out).eight;have hlc:=O8.out wr HE.out;have Vk:=HRC.out wr HE.out;clear hl hr hl2 hr2
   cases Oh:(bZ a ⟨l.toArray⟩).isSome
   ·rw[Oh]at Ij;have HF:=zq (AO.out Oh);clear Oh AO HNB HHA HHB uT HKO HTA HTB;go_upto_region 8 with (first|((with_reducible refine(Ij.out _ HE.out).mono ?_);rintro r_ w2 ⟨rfl,bM⟩;have E2:=zq (HE.out.trans bM);clear q0 q1 q2 q3 q4 q5 q6 q7 hlc Vk;obtain⟨⟨q0,q1,q2,q3,q4,q5,q6,q7⟩,_⟩:=(rq.out w2 E2.out).eight;have hlc:=O8.out w2 E2.out;have Vk:=HRC.out w2 E2.out;clear bM))
    exact aBu
   rw[Oh]at Ij
   cases hfb:(bZ b ⟨r.toArray⟩).isSome
   ·rw[hfb]at HFB;have HF:=zq (HNB.out Oh hfb);clear Oh hfb AO HNB HHA HHB uT HKO HTA HTB;go_upto_region 11 with (first|((with_reducible refine(Ij.out _ HE.out).mono ?_);rintro r_ w2 ⟨rfl,bM⟩;have E2:=zq (HE.out.trans bM);clear q0 q1 q2 q3 q4 q5 q6 q7 hlc Vk;obtain⟨⟨q0,q1,q2,q3,q4,q5,q6,q7⟩,_⟩:=(rq.out w2 E2.out).eight;have hlc:=O8.out w2 E2.out;have Vk:=HRC.out w2 E2.out;clear bM)|((with_reducible refine(HFB.out _ E2.out).mono ?_);rintro r_ w3 ⟨rfl,dV⟩;have E3:=zq (E2.out.trans dV);clear q0 q1 q2 q3 q4 q5 q6 q7 hlc Vk;obtain⟨⟨q0,q1,q2,q3,q4,q5,q6,q7⟩,_⟩:=(rq.out w3 E3.out).eight;have hlc:=O8.out w3 E3.out;have Vk:=HRC.out w3 E3.out;clear dV))
    exact aBv
   rw[hfb]at HFB;have HHA:=zq (HHA.out Oh hfb);have HHB:=zq (HHB.out Oh hfb);have uT:=zq (uT.out Oh hfb);have HKO:=zq (HKO.out Oh hfb);obtain⟨ia,ca,_,Vj,hia,hka⟩:=HTA.out Oh;obtain⟨ib,cb,_,hcb,hib,hkb⟩:=HTB.out hfb;rw[hia]at Ij;rw[hib]at HFB;rw[hka,hkb]at uT HKO;have hla:=(awz.1 Vj).1;have hlb:=(awz.1 hcb).1;rw[Iu.out]at hla;rw[TV.out]at hlb;have j1:(0:Int)<=(ia:Int):=ae;have j2:(ia:Int)<(an:Int):=ae;have j3:(0:Int)<=(ib:Int):=ae;have j4:(ib:Int)<(bn:Int):=ae;obtain⟨ba,oa,rfl,_⟩:=Cs.qp (AP.out wr HE.out) Vj;obtain⟨bb,ob,rfl,_⟩:=Cs.qp (uQ.out wr HE.out) hcb;have HKA:Hid (∀w1,Ev w0 w1->w1.cell? ⟨ba,oa+ia*2+1,none⟩=some (.int .i64 ca.2)):=zq λw1 hE=>by obtain⟨_,_,e,_,h⟩:=Cs.qp (AP.out w1 hE) Vj;cases e;exact h
   have HKB:Hid (∀w1,Ev w0 w1->w1.cell? ⟨bb,ob+ib*2+1,none⟩=some (.int .i64 cb.2)):=zq λw1 hE=>by obtain⟨_,_,e,_,h⟩:=Cs.qp (uQ.out w1 hE) hcb;cases e;exact h
   clear Oh hfb AO HNB HTA HTB Vj hcb hia hib hka hkb hla hlb;generalize oL (lf.take k) ⟨l.toArray⟩=H1 at*;generalize oL (rt.take k) ⟨r.toArray⟩=H2 at*;go_upto_region 12 with (first|((with_reducible refine(Ij.out _ HE.out).mono ?_);rintro r_ w2 ⟨rfl,bM⟩;have E2:=zq (HE.out.trans bM);clear q0 q1 q2 q3 q4 q5 q6 q7 hlc Vk;obtain⟨⟨q0,q1,q2,q3,q4,q5,q6,q7⟩,_⟩:=(rq.out w2 E2.out).eight;have hlc:=O8.out w2 E2.out;have Vk:=HRC.out w2 E2.out;clear bM)|((with_reducible refine(HFB.out _ E2.out).mono ?_);rintro r_ w3 ⟨rfl,dV⟩;have E3:=zq (E2.out.trans dV);clear q0 q1 q2 q3 q4 q5 q6 q7 hlc Vk;obtain⟨⟨q0,q1,q2,q3,q4,q5,q6,q7⟩,_⟩:=(rq.out w3 E3.out).eight;have hlc:=O8.out w3 E3.out;have Vk:=HRC.out w3 E3.out;clear dV))
   go_quiet (first|(go_at_call 92;exact ayv (HH1.out _ (E3.out.trans (Ev.drewN _ _)))))
   generalize EJ:World.drewN _ _=wq1;have EQ1:=zq (E3.out.trans (EJ▸Ev.drewN _ _));clear EJ q0 q1 q2 q3 q4 q5 q6 q7 hlc Vk;obtain⟨⟨q0,q1,q2,q3,q4,q5,q6,q7⟩,_⟩:=(rq.out wq1 EQ1.out).eight;have hlc:=O8.out wq1 EQ1.out;have Vk:=HRC.out wq1 EQ1.out
   cases H1
   ·go_upto_region 14 with fail
    go_quiet (first|(go_at_call 92;exact ayv (HH2.out _ (EQ1.out.trans (Ev.drewN _ _)))))
    generalize EJ:World.drewN _ _=wq2;have EQ2:=zq (EQ1.out.trans (EJ▸Ev.drewN _ _));clear EJ q0 q1 q2 q3 q4 q5 q6 q7 hlc Vk;obtain⟨⟨q0,q1,q2,q3,q4,q5,q6,q7⟩,_⟩:=(rq.out wq2 EQ2.out).eight;have hlc:=O8.out wq2 EQ2.out;have Vk:=HRC.out wq2 EQ2.out
    cases H2
    ·go_upto_region 16 with fail
     have hka:=HKA.out wq2 EQ2.out;have hkb:=HKB.out wq2 EQ2.out
     go_quiet (fail)
     generalize EJ:World.drewN _ _=wq3;have EQ3:=zq (EQ2.out.trans (EJ▸Ev.drewN _ _));clear EJ q0 q1 q2 q3 q4 q5 q6 q7 hlc Vk hka hkb;obtain⟨⟨q0,q1,q2,q3,q4,q5,q6,q7⟩,_⟩:=(rq.out wq3 EQ3.out).eight;have hlc:=O8.out wq3 EQ3.out;have Vk:=HRC.out wq3 EQ3.out;by_cases qW:ca.2=cb.2
     ·have hb1:(ca.2==cb.2)=true:=by simp[qW]
      have hb2:(ca.2 !=cb.2)=false:=by simp[qW]
      have HF:=zq (HKO.out rfl rfl qW);have HRN:Hid ((List.range (k+1)).foldl (iR lf rt a b) (CR.of a)=CR.of a):=zq (by rw[tq,HR.out,HF.out]);clear HHA HHB uT HKO qW;go_wp2;go_roundw
      case rel=>exact⟨k+1,by go_num,ae,HRN,EQ3⟩
      case measure=>simp[intOf];omega
     have hb1:(ca.2==cb.2)=false:=awy.2 qW;have hb2:(ca.2 !=cb.2)=true:=by simp[qW]
     have HF:=zq (uT.out rfl rfl qW);clear HHA HHB uT HKO qW;go_upto_region 17 with fail
     go_quiet (fail)
     go_wp2
     go_ret3
     rw[HF.out];exact⟨_,rfl,Ow.nil_ _,(cu.out.trans EQ3.out).trans (Ev.drewN _ _)⟩
    have HF:=zq (HHB.out rfl rfl);clear HHA HHB uT HKO;go_upto_region 15 with fail
    go_quiet (fail)
    go_wp2
    go_ret3
    rw[HF.out];exact⟨_,rfl,Ow.nil_ _,(cu.out.trans EQ2.out).trans (Ev.drewN _ _)⟩
   have HF:=zq (HHA.out rfl);clear HHA HHB uT HKO;go_upto_region 13 with fail
   go_quiet (fail)
   go_wp2
   go_ret3
   rw[HF.out];exact⟨_,rfl,Ow.nil_ _,(cu.out.trans EQ1.out).trans (Ev.drewN _ _)⟩
  obtain rfl:k=nl:=ae;obtain⟨wo,rfl⟩:∃wo:ak,wo=wr:=⟨_,rfl⟩
  obtain⟨⟨q0,q1,q2,q3,q4,q5,q6,q7⟩,_⟩:=(rq.out wo HE.out).eight;have hsz:=HE.out.size
  go_wp2_with (first
   | ((show wpList _ _ _ (⟨some 119,_,_,_,_,_⟩::_) _ _);refine aO (o:=⟨some 119,_,_,_,_,_⟩) rfl 24 (.tmp 117) (.tmp 118) rfl iF underlying24 Tryz.o9 rfl rfl ((jl.new (et:=50) (b:=w0.heap.size) hsz).ow (k:=2) (enc:=dM)) AA an WH a rfl ((AP.out wo HE.out).ev aB) (by have:=Iu.out;simp;omega) (by have:=Iu.out;simp;omega) (by simp;omega) ?_;intro v2 w7 dY;have E7:=zq (qJ (HE.out.trans aB) ((jl.new (et:=50) (b:=w0.heap.size) hsz).ow (k:=2) (enc:=dM)) (awC _) dY);obtain⟨A2,c2,rfl,_,_⟩:=dY.1.form iF;have HO7:=zq dY.1;clear dY q0 q1 q2 q3 q4 q5 q6 q7))
  go_loopw [13,14] (λcv iv wr=>∃(k:Nat) (CA:Option Addr) (cc nc:Nat),cv=.slice CA nc cc/\iv=↑k/\k<=bn/\nc<=an+k/\Hid (((b.take k).foldl (gQ rt) (CR.of a)).cols.length=nc)/\Hid (Ow 50 2 dM w0.heap.size wr (.slice CA nc cc) ((b.take k).foldl (gQ rt) (CR.of a)).cols)/\Hid (((b.take k).foldl (gQ rt) (CR.of a)).why=0)/\Hid (Ev w0 wr)) (λ_ iv _=>bn-(intOf iv).toNat)
  case atStart=>exact⟨0,A2,c2,a.length,aj,rfl,awJ _,by have:=Iu.out;omega,zq rfl,zq (by have h1:=HO7.out;rw[axA]at h1;exact h1),zq rfl,E7⟩
  case round=>
   obtain⟨q,CA,cc,nc,rfl,rfl,hq,yK,qX,HO,HY,HE⟩:=hrel;by_cases hlt:q<bn
   ·obtain⟨c,hc⟩:=(uQ.out wr HE.out).at hlt;obtain⟨bb,ob,rfl,_⟩:=Cs.qp (uQ.out wr HE.out) hc;have Ht:Hid (∀w1,Ev w0 w1->w1.cell? ⟨bb,ob+q*2,none⟩=some (.string c.1)/\w1.cell? ⟨bb,ob+q*2+1,none⟩=some (.int .i64 c.2)):=zq λw1 hE=>by obtain⟨_,_,e,h,h'⟩:=Cs.qp (uQ.out w1 hE) hc;cases e;exact⟨h,h'⟩
    have HST:Hid ((b.take (q+1)).foldl (gQ rt) (CR.of a)=gQ rt ((b.take q).foldl (gQ rt) (CR.of a)) c):=zq (lU hc);have oJ:=zq (λy x hy h=>tY.stop (Fh rt) (r:=CR.of a) (y:=y) (s:=x) hc hy h);have HHS:=zq (λw1 (hE:Ev w0 w1)=>Jl rt rA k m.rt.cap c.1 w1 (zG.out w1 hE));obtain⟨RK,Ru⟩:∃RK,RK=(b.take q).foldl (gQ rt) (CR.of a):=⟨_,rfl⟩
    rw[<-Ru]at qX HO HY HST oJ;have Xm:Hid (∀w1,Ev wr w1->Calls ax 87 #[.slice CA nc cc,.string c.1] w1 λe w'=>e=.returned (.tuple #[.int .i64 (foundAt (bZ RK.cols c.1)),.bool (bZ RK.cols c.1).isSome])/\Ev w1 w'):=zq λw1 hE=>by
     obtain⟨A2,c2,hv,hS,_⟩:=Ow.form iF HO.out;injection hv with h1 h2 h3
     rw[qX.out,<-h1,<-h3]at hS;exact og _ w1 (hS.ev hE)
    have HRH:=zq (λh=>Xr (rt:=rt) (r:=RK) (c:=c) h);have HRA:=zq (λh=>Xt (rt:=rt) (r:=RK) (c:=c) h);have DV:=zq (λh=>CR.BK (nm:=c.1) (k:=c.2) HY.out h);have HAF:=zq (λh=>CR.qI (r:=RK) (nm:=c.1) (k:=c.2) h);have i1:(0:Int)<=(q:Int):=ae;have i2:(q:Int)<(bn:Int):=ae;obtain⟨⟨q0,q1,q2,q3,q4,q5,q6,q7⟩,_⟩:=(rq.out wr HE.out).eight;obtain⟨hc0,hc1⟩:=Ht.out wr HE.out;generalize oL rt c.1=HB at*;generalize bZ RK.cols c.1=FC at*;generalize foundAt FC=FI at*;generalize FC.isSome=FB at*;clear hc Ru;go_upto_region 22 with fail
    go_quiet (first|(go_at_call 92;exact ayv (HHS.out _ (HE.out.trans (Ev.drewN _ _)))))
    generalize EJ:World.drewN _ _=wq;have I4:Ev wr wq:=EJ▸Ev.drewN _ _;have EQ:=zq (HE.out.trans I4);have EQ0:=zq I4;clear EJ I4 hc0 hc1 q0 q1 q2 q3 q4 q5 q6 q7;obtain⟨⟨q0,q1,q2,q3,q4,q5,q6,q7⟩,_⟩:=(rq.out wq EQ.out).eight;obtain⟨hc0,hc1⟩:=Ht.out wq EQ.out
    cases HB
    ·have afG:=zq (HRA.out rfl)
     cases FB
     ·have aiM:=zq (HAF.out rfl);clear HRH DV HRA HAF
      go_wp2_with (first
       | ((with_reducible refine(Xm.out _ EQ0.out).mono ?_);rintro r_ w3 ⟨rfl,dV⟩;have E3:=zq (EQ0.out.trans dV);have E3':=zq (EQ.out.trans dV);clear hc0 hc1;obtain⟨hc0,hc1⟩:=Ht.out w3 (EQ.out.trans dV);clear dV)
       | ((show wpList _ _ _ (⟨some 156,_,_,_,_,_⟩::_) _ _);refine aO (o:=⟨some 156,_,_,_,_,_⟩) rfl 24 (.tmp 150) (.tmp 155) rfl iF underlying24 Tryz.o9 rfl rfl ((HO.out.ev E3.out).ev aB) ↑w3 1 1 [c] rfl (by have:=Sl.one (et:=50) iF w3 c #[.string c.1,.int .i64 c.2] rfl;simpa using this) (by rw[qX.out];simp;omega) (by rw[qX.out];simp;omega) (by have h1:=E3'.out.size;simp;omega) ?_;intro v2 w8 dY;have E8:=zq (qJ (E3'.out.trans aB) ((HO.out.ev E3.out).ev aB) (awC _) dY);obtain⟨A3,c3,rfl,_,_⟩:=dY.1.form iF;have QR:=zq dY.1;clear dY))
      go_roundw
      case rel=>
       have h1:=QR.out;have hl2:(RK.cols++[c]).length=nc+1:=by rw[awE,qX.out];rfl
       rw[hl2]at h1;exact⟨q+1,A3,c3,nc+1,by rw[qX.out],by go_num,ae,ae,zq (by rw[HST.out,afG.out,aiM.out.2];exact hl2),zq (by rw[HST.out,afG.out,aiM.out.2];exact h1),zq (by rw[HST.out,afG.out,aiM.out.1];exact HY.out),E8⟩
      case measure=>simp[intOf];omega
     have apK:=zq (DV.out rfl);have HS2:=zq (oJ.out 21 c.1 ai (by rw[afG.out];exact apK.out));have HF:=zq (oI (r:=b.foldl (gQ rt) (CR.of a)) (by rw[HS2.out.1];decide));rw[HS2.out.1,HS2.out.2]at HF;clear HRH HAF HRA DV;go_upto_region 25 with (first
      | ((with_reducible refine(Xm.out _ EQ0.out).mono ?_);rintro r_ w3 ⟨rfl,dV⟩;have E3':=zq (EQ.out.trans dV);clear hc0 hc1;obtain⟨hc0,hc1⟩:=Ht.out w3 (EQ.out.trans dV);clear dV))
     go_quiet (fail)
     go_wp2
     go_ret3
     rw[HR.out,HF.out];exact⟨_,rfl,Ow.nil_ _,(cu.out.trans E3'.out).trans (Ev.drewN _ _)⟩
    have aiN:=zq (HRH.out rfl);clear HRA DV HAF HRH;go_wp2;go_roundw
    case rel=>exact⟨q+1,CA,cc,nc,rfl,by go_num,ae,ae,zq (by rw[HST.out,aiN.out];exact qX.out),zq (by rw[HST.out,aiN.out];exact HO.out.ev EQ0.out),zq (by rw[HST.out,aiN.out];exact HY.out),EQ⟩
    case measure=>simp[intOf];omega
   obtain rfl:q=bn:=ae;have HT:Hid (b.take q=b):=zq (awS (by rw[TV.out];exact awC _));rw[HT.out]at qX HO HY;obtain⟨RK,Ru⟩:∃RK,RK=b.foldl (gQ rt) (CR.of a):=⟨_,rfl⟩
   rw[<-Ru]at qX HO HY;have HRK:=zq Ru;clear Ru;by_cases h6:6<nc
   ·have i6:(6:Int)<(nc:Int):=ae;have HF:Hid (outT (b.foldl (gQ rt) (CR.of a)).limit=([],23,⟨#[]⟩)):=zq (by rw[<-HRK.out];exact xN HY.out (by rw[qX.out];exact h6));go_wp2
    go_ret3
    rw[HR.out,HF.out];exact⟨_,rfl,Ow.nil_ _,cu.out.trans HE.out⟩
   have i6:¬(6:Int)<(nc:Int):=ae;have HF:Hid (outT (b.foldl (gQ rt) (CR.of a)).limit=(RK.cols,0,⟨#[]⟩)):=zq (by rw[<-HRK.out];exact AZ HY.out (by rw[qX.out];exact h6));go_wp2
   go_ret3
   rw[HR.out,HF.out];exact⟨_,rfl,HO.out.wK cu.out.size,cu.out.trans HE.out⟩
theorem aal{l:List C}{s:ByteArray}{i:Nat}{c:C}(h:bZ l s=some i)(hc:l[i]?=some c):c.1=s:=by unfold bZ at h;rw[axH]at h;obtain⟨hi,hn,_⟩:=h;rw[awX hi]at hc;rw[axd hc]at hn;unfold named at hn;rw[awO,toList_data,toList_data]at hn;have e:c.1.data=s.data:=Array.toList_inj.1 hn;obtain⟨⟨x⟩⟩:=s;obtain⟨⟨⟨y⟩⟩,k⟩:=c;simpa using e
theorem adv{cols:List C}{l:List By}(h:cols.map Prod.fst=l.map aY)(s:ByteArray):(bZ cols s).isSome=oL l s:=by
 have e:(bZ cols s).isSome=(cols.map Prod.fst).any λx=>x.toList==s.toList:=by unfold bZ;rw[List.findIdx?_isSome,List.any_map];rfl
 rw[e,h,List.any_map];unfold oL;congr 1;funext x;show ((aY x).toList==s.toList)=(s.toList==x);rw[toList_data];show (x==s.toList)=(s.toList==x);exact Bool.beq_comm ..
theorem Ry(kid:List C):tY (gy kid):=λr s h=>by unfold gy;rw[CR.wE h];exact CR.add_bad h
theorem aam{kid:List C}{r:CR}{s:By}(h:r.why=0)(hf:(bZ kid (aY s)).isSome=false):(gy kid r s).why=20/\(gy kid r s).name=aY s:=by unfold gy;rw[CR.Ff hf];have h1:=CR.add_bad (nm:=aY s) (k:=dL kid (aY s)) (BL (r:=r) (s:=aY s) (y:=20) h ai);rw[h1.1,h1.2,CR.jo h];exact⟨rfl,rfl⟩
theorem Rz{kid:List C}{r:CR}{s:By}(h:r.why=0)(hf:(bZ kid (aY s)).isSome=true)(ht:(bZ r.cols (aY s)).isSome=true):(gy kid r s).why=21/\(gy kid r s).name=aY s:=by unfold gy;rw[CR.find_ok hf];exact CR.BK h ht
theorem aan{kid:List C}{r:CR}{s:By}(hf:(bZ kid (aY s)).isSome=true)(ht:(bZ r.cols (aY s)).isSome=false):(gy kid r s).why=r.why/\(gy kid r s).cols=r.cols++[(aY s,dL kid (aY s))]:=by unfold gy;rw[CR.find_ok hf];exact CR.qI ht
theorem Io(kid:List C):tY (λ(r:CR) (a:Ag)=>r.agg kid a):=λr a h=>by
 have h1:=λk=>CR.add_bad (nm:=aY a.1) (k:=k) h;have h2:=λk=>(by rw[(h1 k).1];exact h:(r.add (aY a.1) k).why≠0)
 show (r.agg kid a).why=r.why/\(r.agg kid a).name=r.name;unfold CR.agg;split;simp only[CR.wE (h2 1),CR.jh (h2 1),ite_self];exact h1 1;split;rw[CR.wE (h2 _)];exact h1 _;exact h1 1
section
variable {kid:List C} {r:CR} {nm cl:By}
theorem aao{f:By}(h:r.why=0)(ht:(bZ r.cols (aY nm)).isSome=true):(r.agg kid (nm,f,cl)).why=21/\(r.agg kid (nm,f,cl)).name=aY nm:=by
 have h1:=λk=>CR.BK (k:=k) h ht;have h2:=λk=>(by rw[(h1 k).1];decide:(r.add (aY nm) k).why≠0)
 unfold CR.agg;split;simp only[CR.wE (h2 1),CR.jh (h2 1),ite_self];exact h1 1;split;simp only[CR.wE (h2 _)];exact h1 _;exact h1 1
theorem aap(ht:(bZ r.cols (aY nm)).isSome=false):(r.agg kid (nm,gK,cl)).why=r.why/\(r.agg kid (nm,gK,cl)).cols=r.cols++[(aY nm,1)]:=by unfold CR.agg;rw[if_neg (show ¬(gK==kR)=true by decide),if_neg (show ¬(gK==oU||gK==oV)=true by decide)];exact CR.qI ht
theorem aaq(h:r.why=0)(ht:(bZ r.cols (aY nm)).isSome=false)(hf:(bZ kid (aY cl)).isSome=false):(r.agg kid (nm,kR,cl)).why=20/\(r.agg kid (nm,kR,cl)).name=aY cl:=by have h1:=CR.qI (r:=r) (k:=1) ht;have h0:(r.add (aY nm) 1).why=0:=h1.1.trans h;have h2:=BL (s:=aY cl) (y:=20) h0 ai;unfold CR.agg;rw[if_pos (show (kR==kR)=true by decide)];simp only[CR.Ff hf,CR.jh h2,ite_self];rw[CR.jo h0];exact⟨rfl,rfl⟩
theorem UR(h:r.why=0)(ht:(bZ r.cols (aY nm)).isSome=false)(hf:(bZ kid (aY cl)).isSome=true)(hk:¬dL kid (aY cl)=1):(r.agg kid (nm,kR,cl)).why=22/\(r.agg kid (nm,kR,cl)).name=aY cl:=by have h1:=CR.qI (r:=r) (k:=1) ht;have h0:(r.add (aY nm) 1).why=0:=h1.1.trans h;unfold CR.agg;rw[if_pos (show (kR==kR)=true by decide)];simp only[CR.find_ok hf,if_neg hk];rw[CR.jo h0];exact⟨rfl,rfl⟩
theorem afH(ht:(bZ r.cols (aY nm)).isSome=false)(hf:(bZ kid (aY cl)).isSome=true)(hk:dL kid (aY cl)=1):(r.agg kid (nm,kR,cl)).why=r.why/\(r.agg kid (nm,kR,cl)).cols=r.cols++[(aY nm,dL kid (aY cl))]:=by unfold CR.agg;rw[if_pos (show (kR==kR)=true by decide)];simp only[CR.find_ok hf,if_pos hk];rw[hk];exact CR.qI ht
theorem afI{f:By}(hm:f=oU∨f=oV)(h:r.why=0)(ht:(bZ r.cols (aY nm)).isSome=false)(hf:(bZ kid (aY cl)).isSome=false):(r.agg kid (nm,f,cl)).why=20/\(r.agg kid (nm,f,cl)).name=aY cl:=by
 have h1:=CR.qI (r:=r) (k:=dL kid (aY cl)) ht;have h0:(r.add (aY nm) (dL kid (aY cl))).why=0:=h1.1.trans h;have e1:(f==kR)=false:=by rcases hm with rfl|rfl<;>decide
 have e2:(f==oU||f==oV)=true:=by rcases hm with rfl|rfl<;>decide
 unfold CR.agg;simp only[e1,e2,awP,aw7,aw4,CR.Ff hf];rw[CR.jo h0];exact⟨rfl,rfl⟩
theorem afJ{f:By}(hm:f=oU∨f=oV)(ht:(bZ r.cols (aY nm)).isSome=false)(hf:(bZ kid (aY cl)).isSome=true):(r.agg kid (nm,f,cl)).why=r.why/\(r.agg kid (nm,f,cl)).cols=r.cols++[(aY nm,dL kid (aY cl))]:=by
 have e1:(f==kR)=false:=by rcases hm with rfl|rfl<;>decide
 have e2:(f==oU||f==oV)=true:=by rcases hm with rfl|rfl<;>decide
 unfold CR.agg;simp only[e1,e2,awP,aw7,aw4,CR.find_ok hf];exact CR.qI ht
end
theorem Po{lf:List By}{ag:List Ag}{kid:List C}{y:Int}{s:ByteArray}(hy:y≠0)(h:(ag.foldl (λ(r:CR) a=>r.agg kid a) (lf.foldl (gy kid) CR.zero)).why=y/\(ag.foldl (λ(r:CR) a=>r.agg kid a) (lf.foldl (gy kid) CR.zero)).name=s):outT (ni lf ag kid)=([],y,s):=by
 unfold ni;simp only;generalize ag.foldl (λ(r:CR) a=>r.agg kid a) (lf.foldl (gy kid) CR.zero)=R at*;have h0:R.why≠0:=by rw[h.1];exact hy
 rw[CR.jh h0,ite_self,oI h0,h.1,h.2]
theorem Xv{lf:List By}{ag:List Ag}{kid:List C}{y:Int}{s:ByteArray}(hy:y≠0)(h:(lf.foldl (gy kid) CR.zero).why=y/\(lf.foldl (gy kid) CR.zero).name=s):outT (ni lf ag kid)=([],y,s):=by have h1:=(Io kid).fold ag (lf.foldl (gy kid) CR.zero) (by rw[h.1];exact hy);exact Po hy ⟨h1.1.trans h.1,h1.2.trans h.2⟩
theorem aBw(h:U:=by
 go_quiet (fail)
 go_wp2
 go_ret3
 rw[HF.out];exact⟨_,rfl,Ow.nil_ _,(cu.out.trans E4.out).trans (Ev.drewN _ _)⟩):U:=h
theorem ayZ(h:U:=by
 have HF:=zq (DU.out.trans (Qe.out));go_upto_region 22 with (first
  | ((with_reducible refine(Xm.out _ aB).mono ?_);rintro r_ w3 ⟨rfl,dV⟩;have Vl:=zq ((Ev.alloc wr _).trans dV);have E3:=zq (E1.out.trans dV);clear c0 c1 c2;obtain⟨⟨c0,c1,c2⟩,_⟩:=(MW.out.ev dV).three;have EP:=zq (MW.out.ev dV);clear dV)
  | ((with_reducible refine(LU.out _ E3.out).mono ?_);rintro r_ w4 ⟨rfl,fG⟩;have EE4:=zq (Vl.out.trans fG);have E4:=zq (E3.out.trans fG);clear c0 c1 c2;obtain⟨⟨c0,c1,c2⟩,_⟩:=(EP.out.ev fG).three;clear fG))
 exact aBw):U:=h
theorem ayK(h:U:=by
 go_wp2_with (first
  | ((with_reducible refine(Xm.out _ aB).mono ?_);rintro r_ w3 ⟨rfl,dV⟩;have Vl:=zq ((Ev.alloc wr _).trans dV);have E3:=zq (E1.out.trans dV);clear c0 c1 c2;obtain⟨⟨c0,c1,c2⟩,_⟩:=(MW.out.ev dV).three;have EP:=zq (MW.out.ev dV);clear dV)
  | ((with_reducible refine(LU.out _ E3.out).mono ?_);rintro r_ w4 ⟨rfl,fG⟩;have EE4:=zq (Vl.out.trans fG);have E4:=zq (E3.out.trans fG);clear c0 c1 c2;obtain⟨⟨c0,c1,c2⟩,_⟩:=(EP.out.ev fG).three;have um:=l9.out w4 E4.out;clear fG)
  | ((show wpList _ _ _ (⟨some 124,_,_,_,_,_⟩::_) _ _);refine aO (o:=⟨some 124,_,_,_,_,_⟩) rfl 24 (.tmp 118) (.tmp 123) rfl iF underlying24 Tryz.o9 rfl rfl ((HOJ.out.ev EE4.out).ev aB) ↑w4 1 1 [(⟨nm.toArray⟩,ck)] rfl (by have:=Sl.one (et:=50) iF w4 (((⟨nm.toArray⟩:ByteArray),ck):C) #[↑nm,↑ck] rfl;simpa using this) (by rw[IY.out];simp;omega) (by rw[IY.out];simp;omega) (by have h1:=E4.out.size;simp;omega) ?_;intro v2 w8 dY;have E8:=zq (qJ (E4.out.trans aB) ((HOJ.out.ev EE4.out).ev aB) (awC _) dY);obtain⟨A3,c3,rfl,_,_⟩:=dY.1.form iF;have QR:=zq dY.1;clear dY))
 go_roundw
 case rel=>
  have h1:=QR.out;have hl2:(RK.cols++[((⟨nm.toArray⟩:ByteArray),(ck:Int))]).length=nc+1:=by rw[awE,IY.out];rfl
  rw[hl2]at h1;exact⟨j+1,A3,c3,nc+1,by rw[IY.out],by have:=Jg.out;omega,by go_num,ae,zq (by rw[HST.out,HU2.out.2];exact hl2),zq (by rw[HST.out,HU2.out.2];exact h1),zq (by rw[HST.out,HU2.out.1];exact Yz.out),E8⟩
 case measure=>simp[intOf];omega):U:=h
theorem aar(m:PM)(b0:Nat)(w:ak)(hQ:Qx b0 [] w m)(kid:List C)(A:Option Addr)(n cap:Nat)(hC:Cs w A n cap kid)(jg:m.lf.l.length<=10000)(hla:m.ag.l.length<=10000)(XY:∀a∈m.ag.l,KC a):
  Calls ax 47 #[.agg ↑m,.slice A n cap] w (je (outT (ni m.lf.l m.ag.l kid)) w):=by
 obtain⟨_,_,_,pJ,_,yz,_,_⟩:=hQ.at;obtain⟨w0,hw0,aV,o8,hs0⟩:=vV w m;have WW:Hid (∀w1,Ev w0 w1->Cs w1 A n cap kid):=zq λw1 hE=>hC.ev (aV.trans hE);have zS:Hid (∀w1,Ev w0 w1->Ss w1 m.lf.A m.lf.l.length m.lf.cap m.lf.l):=zq λw1 hE=>pJ.sl.ev (aV.trans hE);have Ar:Hid (∀w1,Ev w0 w1->As w1 m.ag.A m.ag.l.length m.ag.cap m.ag.l):=zq λw1 hE=>yz.sl.ev (aV.trans hE);have rq:Hid (∀w1,Ev w0 w1->Bx 32 w.heap.size ↑m w1):=zq λw1 hE=>o8.ev hE;have HGA:=zq XY;have cu:=zq aV;have acL:=pJ.sl.le;have ak0:=pJ.sl.max;have acM:=yz.sl.le;have ao1:=yz.sl.max;have hcl:=hC.le;have hcm:=hC.max;have Gt:=zq hC.len;unfold je;obtain⟨nl,hnl⟩:∃nl,nl=m.lf.l.length:=⟨_,rfl⟩
 obtain⟨na,DX⟩:∃na,na=m.ag.l.length:=⟨_,rfl⟩
 have jd:=zq hnl;have AO:=zq DX;obtain⟨⟨q0,q1,q2,q3,q4,q5,q6,q7⟩,_⟩:=(rq.out w0 aK).eight;rw[<-hnl]at acL q4 jg;rw[<-DX]at acM q6 hla;simp only[<-hnl,<-DX]at rq zS Ar hw0|-;clear hQ pJ yz hC aV o8 hs0 hnl DX XY;generalize m.lf.l=lf at*;generalize m.ag.l=ag at*;generalize m.lf.A=lA at*;generalize m.ag.A=aA at*;obtain⟨RR,hRR⟩:∃RR,RR=outT (ni lf ag kid):=⟨_,rfl⟩
 rw[<-hRR];have DU:=zq hRR;clear hRR;go_enter func47,ntmps47;go_wp2;clear q0 q1 q2 q3 q4 q5 q6 q7
 go_loopw [7,8] (λcv iv wr=>∃(k:Nat) (CA:Option Addr) (cc:Nat),cv=.slice CA k cc/\iv=↑k/\k<=nl/\Hid (((lf.take k).foldl (gy kid) CR.zero).cols.map Prod.fst=(lf.take k).map aY)/\Hid (((lf.take k).foldl (gy kid) CR.zero).cols.length=k)/\Hid (Ow 50 2 dM w0.heap.size wr (.slice CA k cc) ((lf.take k).foldl (gy kid) CR.zero).cols)/\Hid (((lf.take k).foldl (gy kid) CR.zero).why=0)/\Hid (Ev w0 wr)) (λ_ iv _=>nl-(intOf iv).toNat)
 case atStart=>exact⟨0,none,0,rfl,rfl,awJ _,zq rfl,zq rfl,zq (Ow.nil_ _),zq rfl,zq aK⟩
 case round=>
  obtain⟨k,CA,cc,rfl,rfl,hk,HN,Og,HO,HY,HE⟩:=hrel;by_cases hlt:k<nl
  ·obtain⟨s,hs⟩:=(zS.out wr HE.out).at hlt;obtain⟨bl,ol,rfl,_⟩:=Ss.qZ (zS.out wr HE.out) hs;have O8:Hid (∀w1,Ev w0 w1->w1.cell? ⟨bl,ol+k,none⟩=some ↑s):=zq λw1 hE=>by obtain⟨_,_,e,h⟩:=Ss.qZ (zS.out w1 hE) hs;cases e;exact h
   have HST:Hid ((lf.take (k+1)).foldl (gy kid) CR.zero=gy kid ((lf.take k).foldl (gy kid) CR.zero) s):=zq (lU hs);have jP:Hid (lf.take (k+1)=lf.take k++[s]):=zq (by
    obtain⟨hk2,e⟩:=awz.1 hs;rw[awH hk2,e])
   have oJ:=zq (λy x hy h=>Xv (ag:=ag) hy (tY.stop (Ry kid) (r:=CR.zero) (y:=y) (s:=x) hs hy h));obtain⟨RK,Ru⟩:∃RK,RK=(lf.take k).foldl (gy kid) CR.zero:=⟨_,rfl⟩
   rw[<-Ru]at HN Og HO HY HST oJ;have Ij:=zq (λw1 (hE:Ev w0 w1)=>og ⟨s.toArray⟩ w1 (WW.out w1 hE));have HHS:=zq (λw1 (hE:Ev w0 w1)=>Jl (lf.take k) ↑(bl,ol) k m.lf.cap ⟨s.toArray⟩ w1 ((zS.out w1 hE).to k ae));have Ve:=zq (adv HN.out (aY s));have HNO:=zq (λhf=>oJ.out _ _ ai (aam (kid:=kid) (r:=RK) (s:=s) HY.out hf));have HTA:=zq (λhf ht=>oJ.out _ _ ai (Rz (kid:=kid) (r:=RK) (s:=s) HY.out hf ht));have HOK:=zq (λhf ht=>aan (kid:=kid) (r:=RK) (s:=s) hf ht);have DV:=zq (Jm (l:=kid) (s:=aY s));have HFN:=zq (λi c h hc=>aal (l:=kid) (s:=aY s) (i:=i) (c:=c) h hc);rw[Ve.out]at HTA HOK;unfold aY at HNO HTA HOK DV HFN;have i1:(0:Int)<=(k:Int):=ae;have i2:(k:Int)<(nl:Int):=ae;have i3:(k:Int)<=(m.lf.cap:Int):=ae;obtain⟨⟨q0,q1,q2,q3,q4,q5,q6,q7⟩,_⟩:=(rq.out wr HE.out).eight;have hlc:=O8.out wr HE.out;clear hs Ru
   cases Oh:(bZ kid ⟨s.toArray⟩).isSome
   ·rw[Oh]at Ij;have HF:=zq (DU.out.trans (HNO.out Oh));clear Oh HNO HTA HOK DV HFN;go_upto_region 7 with (first|((with_reducible refine(Ij.out _ HE.out).mono ?_);rintro r_ w2 ⟨rfl,bM⟩;have E2:=zq (HE.out.trans bM);clear q0 q1 q2 q3 q4 q5 q6 q7 hlc;obtain⟨⟨q0,q1,q2,q3,q4,q5,q6,q7⟩,_⟩:=(rq.out w2 E2.out).eight;have hlc:=O8.out w2 E2.out;clear bM))
    exact aBu
   rw[Oh]at Ij;obtain⟨ia,ca,hfi,Vj,hia,hka⟩:=DV.out Oh;have XH:=HFN.out ia ca hfi Vj;rw[hia]at Ij;have al0:=zq (HTA.out Oh);have aiO:=zq (HOK.out Oh);rw[hka]at aiO;have Ht:Hid (∀w1,Ev w0 w1->∃b off,A=some ⟨b,off,none⟩/\w1.cell? ⟨b,off+ia*2,none⟩=some ↑s/\w1.cell? ⟨b,off+ia*2+1,none⟩=some (.int .i64 ca.2)):=zq λw1 hE=>by obtain⟨b,off,e,h,h'⟩:=Cs.qp (WW.out w1 hE) Vj;rw[XH]at h;exact⟨b,off,e,h,h'⟩
   have adw:=(awz.1 Vj).1;rw[Gt.out]at adw;have j1:(0:Int)<=(ia:Int):=ae;have j2:(ia:Int)<(n:Int):=ae;clear Oh hfi Vj hia hka XH HNO DV HFN adw HTA HOK;generalize ca.2=ck at*;generalize oL (lf.take k) ⟨s.toArray⟩=H1 at*;go_upto_region 8 with (first|((with_reducible refine(Ij.out _ HE.out).mono ?_);rintro r_ w2 ⟨rfl,bM⟩;have EE2:=zq bM;have E2:=zq (HE.out.trans bM);clear q0 q1 q2 q3 q4 q5 q6 q7 hlc;obtain⟨⟨q0,q1,q2,q3,q4,q5,q6,q7⟩,_⟩:=(rq.out w2 E2.out).eight;have hlc:=O8.out w2 E2.out;clear bM))
   go_quiet (first|(go_at_call 92;exact ayv (HHS.out _ (E2.out.trans (Ev.drewN _ _)))))
   generalize EJ:World.drewN _ _=wq;have I4:Ev w2 wq:=EJ▸Ev.drewN _ _;have EQ:=zq (E2.out.trans I4);have EQ0:=zq (EE2.out.trans I4);clear EJ I4 hlc q0 q1 q2 q3 q4 q5 q6 q7;obtain⟨⟨q0,q1,q2,q3,q4,q5,q6,q7⟩,_⟩:=(rq.out wq EQ.out).eight;have hlc:=O8.out wq EQ.out
   cases H1
   ·have afK:=zq (aiO.out rfl);clear aiO al0;obtain⟨ba,oa,rfl,hc0,hc1⟩:=Ht.out wq EQ.out
    go_wp2_with (first
     | ((show wpList _ _ _ (⟨some 63,_,_,_,_,_⟩::_) _ _);refine aO (o:=⟨some 63,_,_,_,_,_⟩) rfl 24 (.tmp 57) (.tmp 62) rfl iF underlying24 Tryz.o9 rfl rfl ((HO.out.ev EQ0.out).ev aB) ↑wq 1 1 [(⟨s.toArray⟩,ck)] rfl (by have:=Sl.one (et:=50) iF wq (((⟨s.toArray⟩:ByteArray),ck):C) #[↑s,↑ck] rfl;simpa using this) (by rw[Og.out];simp;omega) (by rw[Og.out];simp;omega) (by have h1:=EQ.out.size;simp;omega) ?_;intro v2 w8 dY;have E8:=zq (qJ (EQ.out.trans aB) ((HO.out.ev EQ0.out).ev aB) (awC _) dY);obtain⟨A3,c3,rfl,_,_⟩:=dY.1.form iF;have QR:=zq dY.1;clear dY))
    go_roundw
    case rel=>
     have h1:=QR.out;have hl2:(RK.cols++[((⟨s.toArray⟩:ByteArray),ck)]).length=k+1:=by rw[awE,Og.out];rfl
     rw[hl2]at h1;exact⟨k+1,A3,c3,by rw[Og.out],by go_num,ae,zq (by rw[HST.out,afK.out.2,jP.out,awM,awM,HN.out];rfl),zq (by rw[HST.out,afK.out.2];exact hl2),zq (by rw[HST.out,afK.out.2];exact h1),zq (by rw[HST.out,afK.out.1];exact HY.out),E8⟩
    case measure=>simp[intOf];omega
   have HF:=zq (DU.out.trans (al0.out rfl));go_upto_region 9 with fail
   go_quiet (fail)
   go_wp2
   go_ret3
   rw[HF.out];exact⟨_,rfl,Ow.nil_ _,(cu.out.trans EQ.out).trans (Ev.drewN _ _)⟩
  obtain rfl:k=nl:=ae;obtain⟨wo,rfl⟩:∃wo:ak,wo=wr:=⟨_,rfl⟩
  have HT:Hid (lf.take k=lf):=zq (awS (by rw[jd.out];exact awC _));rw[HT.out]at Og HO HY;obtain⟨R1,hR1⟩:∃R1,R1=lf.foldl (gy kid) CR.zero:=⟨_,rfl⟩
  rw[<-hR1]at Og HO HY;have gG:=zq hR1;obtain⟨⟨q0,q1,q2,q3,q4,q5,q6,q7⟩,_⟩:=(rq.out wo HE.out).eight;clear HN HT hR1;go_wp2;clear q0 q1 q2 q3 q4 q5 q6 q7
  go_loopw [7,11] (λcv iv wr=>∃(j:Nat) (CA:Option Addr) (cc nc:Nat),cv=.slice CA nc cc/\nc=k+j/\iv=↑j/\j<=na/\Hid (((ag.take j).foldl (λ(r:CR) a=>r.agg kid a) R1).cols.length=nc)/\Hid (Ow 50 2 dM w0.heap.size wr (.slice CA nc cc) ((ag.take j).foldl (λ(r:CR) a=>r.agg kid a) R1).cols)/\Hid (((ag.take j).foldl (λ(r:CR) a=>r.agg kid a) R1).why=0)/\Hid (Ev w0 wr)) (λ_ iv _=>na-(intOf iv).toNat)
  case atStart=>exact⟨0,CA,cc,k,rfl,rfl,rfl,awJ _,Og,HO,HY,HE⟩
  case round=>
   obtain⟨j,DA,dc_,nc,rfl,yK,rfl,hj,IY,HOJ,Yz,HEJ⟩:=hrel;have Jg:=zq yK;have avd:nc<=20000:=ae;clear yK;by_cases XU:j<na
   ·obtain⟨⟨nm,fn,cl⟩,ha⟩:=(Ar.out wr HEJ.out).at XU;obtain⟨be,oe,rfl,a0,a1,a2⟩:=As.qZ (Ar.out wr HEJ.out) ha;have HGa:=HGA.out _ (awG ha);have HST:Hid ((ag.take (j+1)).foldl (λ(r:CR) a=>r.agg kid a) R1=((ag.take j).foldl (λ(r:CR) a=>r.agg kid a) R1).agg kid (nm,fn,cl)):=zq (lU ha);have oJ:=zq (λy x hy h=>Po (lf:=lf) (ag:=ag) (kid:=kid) (y:=y) (s:=x) hy (by rw[<-gG.out];exact tY.stop (Io kid) (r:=R1) (y:=y) (s:=x) ha hy h));obtain⟨RK,Ru⟩:∃RK,RK=(ag.take j).foldl (λ(r:CR) a=>r.agg kid a) R1:=⟨_,rfl⟩
    rw[<-Ru]at IY HOJ Yz HST oJ;have Xm:Hid (∀w1,Ev wr w1->Calls ax 87 #[.slice DA nc dc_,↑nm] w1 λe w'=>e=.returned (.tuple #[.int .i64 (foundAt (bZ RK.cols ⟨nm.toArray⟩)),.bool (bZ RK.cols ⟨nm.toArray⟩).isSome])/\Ev w1 w'):=zq λw1 hE=>by
     obtain⟨A2,c2,hv,hS,_⟩:=Ow.form iF HOJ.out;injection hv with h1 h2 h3
     rw[IY.out,<-h1,<-h3]at hS;exact og _ w1 (hS.ev hE)
    have LU:=zq (λw1 (hE:Ev w0 w1)=>og ⟨cl.toArray⟩ w1 (WW.out w1 hE));have jP:=zq (λht=>oJ.out _ _ ai (aao (kid:=kid) (r:=RK) (nm:=nm) (f:=fn) (cl:=cl) Yz.out ht));have EE:=zq (λht=>aap (kid:=kid) (r:=RK) (nm:=nm) (cl:=cl) ht);have HSN:=zq (λht hf=>aaq (kid:=kid) (r:=RK) (nm:=nm) (cl:=cl) Yz.out ht hf);have HSY:=zq (λht hf hk=>UR (kid:=kid) (r:=RK) (nm:=nm) (cl:=cl) Yz.out ht hf hk);have HSU:=zq (λht hf hk=>afH (kid:=kid) (r:=RK) (nm:=nm) (cl:=cl) ht hf hk);have Vf:=zq (λhm ht hf=>afI (kid:=kid) (r:=RK) (nm:=nm) (cl:=cl) (f:=fn) hm Yz.out ht hf);have HMO:=zq (λhm ht hf=>afJ (kid:=kid) (r:=RK) (nm:=nm) (cl:=cl) (f:=fn) hm ht hf);have DV:=zq (Jm (l:=kid) (s:=aY cl));unfold aY at jP EE HSN HSY HSU Vf HMO DV;have MW:=zq (Bx.new 54 #[↑nm,↑fn,↑cl] wr);obtain⟨⟨c0,c1,c2⟩,_⟩:=MW.out.three;have i1:(0:Int)<=(j:Int):=ae;have i2:(j:Int)<(na:Int):=ae;obtain⟨⟨q0,q1,q2,q3,q4,q5,q6,q7⟩,_⟩:=(rq.out wr HEJ.out).eight;have E1:=zq (HEJ.out.trans (Ev.alloc wr (.cells #[↑nm,↑fn,↑cl] 54)));clear ha Ru;generalize bZ RK.cols ⟨nm.toArray⟩=FC at*;generalize foundAt FC=FI at*;generalize FC.isSome=FB at*
    cases FB
    ·clear jP;obtain⟨_,hgf⟩:=HGa;rcases hgf with⟨hf,_⟩|⟨hf,_⟩
     ·obtain rfl:fn=gK:=hf;have HC2:=zq (EE.out rfl);clear HSN HSY HSU Vf HMO DV LU;unfold gK at*
      go_wp2_with (first
       | ((with_reducible refine(Xm.out _ aB).mono ?_);rintro r_ w3 ⟨rfl,dV⟩;have Vl:=zq ((Ev.alloc wr _).trans dV);have E3:=zq (E1.out.trans dV);clear c0 c1 c2;obtain⟨⟨c0,c1,c2⟩,_⟩:=(MW.out.ev dV).three;have EP:=zq (MW.out.ev dV);clear dV)
       | ((show wpList _ _ _ (⟨some 124,_,_,_,_,_⟩::_) _ _);refine aO (o:=⟨some 124,_,_,_,_,_⟩) rfl 24 (.tmp 118) (.tmp 123) rfl iF underlying24 Tryz.o9 rfl rfl ((HOJ.out.ev Vl.out).ev aB) ↑w3 1 1 [(⟨nm.toArray⟩,1)] rfl (by have:=Sl.one (et:=50) iF w3 (((⟨nm.toArray⟩:ByteArray),1):C) #[↑nm,.int .i64 1] rfl;simpa using this) (by rw[IY.out];simp;omega) (by rw[IY.out];simp;omega) (by have h1:=E3.out.size;simp;omega) ?_;intro v2 w8 dY;have E8:=zq (qJ (E3.out.trans aB) ((HOJ.out.ev Vl.out).ev aB) (awC _) dY);obtain⟨A3,c3,rfl,_,_⟩:=dY.1.form iF;have QR:=zq dY.1;clear dY))
      go_roundw
      case rel=>
       have h1:=QR.out;have hl2:(RK.cols++[((⟨nm.toArray⟩:ByteArray),(1:Int))]).length=nc+1:=by rw[awE,IY.out];rfl
       rw[hl2]at h1;exact⟨j+1,A3,c3,nc+1,by rw[IY.out],by have:=Jg.out;omega,by go_num,ae,zq (by rw[HST.out,HC2.out.2];exact hl2),zq (by rw[HST.out,HC2.out.2];exact h1),zq (by rw[HST.out,HC2.out.1];exact Yz.out),E8⟩
      case measure=>simp[intOf];omega
     cases MN:(bZ kid ⟨cl.toArray⟩).isSome
     rw[MN]at LU;rcases hf with hf|hf|hf;obtain rfl:fn=kR:=hf;have Qe:=zq (oJ.out _ _ ai (HSN.out rfl MN));clear EE HSN HSY HSU Vf HMO DV;unfold kR at*;exact ayZ;obtain rfl:fn=oU:=hf;have Qe:=zq (oJ.out _ _ ai (Vf.out (.inl rfl) rfl MN));clear EE HSN HSY HSU Vf HMO DV;unfold oU at*;exact ayZ;obtain rfl:fn=oV:=hf;have Qe:=zq (oJ.out _ _ ai (Vf.out (.inr rfl) rfl MN));clear EE HSN HSY HSU Vf HMO DV;unfold oV at*;exact ayZ;rw[MN]at LU;obtain⟨ia,ca,hfi,Vj,hia,hka⟩:=DV.out MN;rw[hia]at LU;rw[hka]at HSY HSU HMO;have adw:=(awz.1 Vj).1;rw[Gt.out]at adw;have j1:(0:Int)<=(ia:Int):=ae;have j2:(ia:Int)<(n:Int):=ae;obtain⟨ba,oa,rfl,_⟩:=Cs.qp (WW.out wr HEJ.out) Vj;have l9:Hid (∀w1,Ev w0 w1->w1.cell? ⟨ba,oa+ia*2+1,none⟩=some (.int .i64 ca.2)):=zq λw1 hE=>by obtain⟨_,_,e,_,h⟩:=Cs.qp (WW.out w1 hE) Vj;cases e;exact h
     have adx:=zq (HSY.out rfl MN);have ady:=zq (HSU.out rfl MN);have aat:=zq (λhm=>HMO.out hm rfl MN);clear MN hfi Vj hia hka adw EE HSN Vf DV HSY HSU HMO;generalize ca.2=ck at*;rcases hf with hf|hf|hf
     ·obtain rfl:fn=kR:=hf;unfold kR at*;by_cases qW:ck=1;have hb1:(ck==1)=true:=by simp[qW]
      have hb2:(ck !=1)=false:=by simp[qW]
      have HU2:=zq (ady.out qW);clear adx ady aat qW;exact ayK;have hb1:(ck==1)=false:=awy.2 qW;have hb2:(ck !=1)=true:=by simp[qW]
      have Qe:=zq (oJ.out _ _ ai (adx.out qW));clear adx ady aat qW;have HF:=zq (DU.out.trans (Qe.out));go_upto_region 24 with (first
       | ((with_reducible refine(Xm.out _ aB).mono ?_);rintro r_ w3 ⟨rfl,dV⟩;have Vl:=zq ((Ev.alloc wr _).trans dV);have E3:=zq (E1.out.trans dV);clear c0 c1 c2;obtain⟨⟨c0,c1,c2⟩,_⟩:=(MW.out.ev dV).three;have EP:=zq (MW.out.ev dV);clear dV)
       | ((with_reducible refine(LU.out _ E3.out).mono ?_);rintro r_ w4 ⟨rfl,fG⟩;have EE4:=zq (Vl.out.trans fG);have E4:=zq (E3.out.trans fG);clear c0 c1 c2;obtain⟨⟨c0,c1,c2⟩,_⟩:=(EP.out.ev fG).three;have um:=l9.out w4 E4.out;clear fG))
      exact aBw
     obtain rfl:fn=oU:=hf;have HU2:=zq (aat.out (.inl rfl));clear adx ady aat;unfold oU at*;exact ayK;obtain rfl:fn=oV:=hf;have HU2:=zq (aat.out (.inr rfl));clear adx ady aat;unfold oV at*;exact ayK
    have HF:=zq (DU.out.trans (jP.out rfl));clear EE HSN HSY HSU Vf HMO DV LU HGa;go_upto_region 17 with (first
     | ((with_reducible refine(Xm.out _ aB).mono ?_);rintro r_ w3 ⟨rfl,dV⟩;have E3:=zq (E1.out.trans dV);clear c0 c1 c2;obtain⟨⟨c0,c1,c2⟩,_⟩:=(MW.out.ev dV).three;clear dV))
    exact aBv
   obtain rfl:j=na:=ae;obtain⟨⟨q0,q1,q2,q3,q4,q5,q6,q7⟩,_⟩:=(rq.out wr HEJ.out).eight;have HT5:Hid (ag.take j=ag):=zq (awS (by rw[AO.out];exact awC _));rw[HT5.out]at IY HOJ Yz;have hgr:ni lf ag kid=(if (ag.foldl (λ(r:CR) a=>r.agg kid a) R1).cols.length=0 then (ag.foldl (λ(r:CR) a=>r.agg kid a) R1).fail 23 ⟨#[]⟩ else ag.foldl (λ(r:CR) a=>r.agg kid a) R1).limit:=by rw[gG.out];rfl
   obtain⟨R2,hR2⟩:∃R2,R2=ag.foldl (λ(r:CR) a=>r.agg kid a) R1:=⟨_,rfl⟩
   rw[<-hR2]at IY HOJ Yz hgr;have HGR:=zq hgr;clear hR2 hgr;by_cases hz:nc=0
   ·have HF:Hid (RR=([],23,⟨#[]⟩)):=zq (by
     rw[DU.out,HGR.out,if_pos (by rw[IY.out];exact hz),CR.jo Yz.out,oI (by show (23:Int)≠0;decide)])
    subst hz;go_wp2
    go_ret3
    rw[HF.out];exact⟨_,rfl,Ow.nil_ _,cu.out.trans HEJ.out⟩
   have hz1:¬((nc:Int)=0):=ae;have hz2:(nc==0)=false:=awy.2 hz;have hz3:((nc:Int)==0)=false:=awy.2 ae;by_cases h6:6<nc
   ·have i6:(6:Int)<(nc:Int):=ae;have HF:Hid (RR=([],23,⟨#[]⟩)):=zq (by
     rw[DU.out,HGR.out,if_neg (by rw[IY.out];exact hz),xN Yz.out (by rw[IY.out];exact h6)])
    go_wp2
    go_ret3
    rw[HF.out];exact⟨_,rfl,Ow.nil_ _,cu.out.trans HEJ.out⟩
   have i6:¬(6:Int)<(nc:Int):=ae;have HF:Hid (RR=(R2.cols,0,⟨#[]⟩)):=zq (by
    rw[DU.out,HGR.out,if_neg (by rw[IY.out];exact hz),AZ Yz.out (by rw[IY.out];exact h6)])
   go_wp2
   go_ret3
   rw[HF.out];exact⟨_,rfl,HOJ.out.wK cu.out.size,cu.out.trans HEJ.out⟩
def ka:By:=[40,116,97,98,108,101,32,116,41]
def kb:By:=[40,103,114,111,117,112,32,40,97,41,32,40,97,32,99,111,117,110,116,41,32,40,116,97,98,108,101,32,116,41,41]
theorem aiP:Xj ka=(gZ,0,⟨#[]⟩):=ah
theorem aiQ:Xj kb=([],21,⟨#[97]⟩):=ah
theorem afP(w:ak)(hT:Tab w):Calls ax 14 #[] w λe w'=>e=.returned (.bool true)/\Ev w w':=by
 have HA:Hid (∀w1,Calls ax 8 #[.string ⟨#[40,116,97,98,108,101,32,116,41]⟩] w1 (Pn (dH ka).1 w1)):=zq λw1=>Xi ka w1 ai;have HB:Hid (∀w1,Calls ax 8 #[.string ⟨#[40,103,114,111,117,112,32,40,97,41,32,40,97,32,99,111,117,110,116,41,32,40,116,97,98,108,101,32,116,41,41]⟩] w1 (Pn (dH kb).1 w1)):=zq λw1=>Xi kb w1 ai;have Vg:=zq Ux;have HO1:=zq (λ(m:PM) (v:au) w1 (hE:Ev w w1) (h:Qx 0 [] w1 m) (hm:m.p=(dH ka).1) (hv:Yp v w1)=>Rt ka m v w1 (hT.ev hE) h hm hv);have QR:=zq (λ(m:PM) (v:au) w1 (hE:Ev w w1) (h:Qx 0 [] w1 m) (hm:m.p=(dH kb).1) (hv:Yp v w1)=>Rt kb m v w1 (hT.ev hE) h hm hv);have HT:=zq ahy;have cu:=zq (Ev.refl w);rw[aiP]at HO1;rw[aiQ]at QR;unfold Pn at HA HB;unfold je at HO1 QR;generalize dH ka=ra at*;generalize dH kb=rb at*;clear hT;go_enter func14,ntmps14
 go_wp2_with (first
  | ((with_reducible refine(HA.out _).mono ?_);rintro e w1 ⟨m1,rfl,hm,hq,hE⟩;have HM1:=zq hm;have HQ1:=zq hq;have E1:=zq (cu.out.trans hE);clear hm hq hE)
  | ((with_reducible refine(Vg.out _).mono ?_);rintro e w2 ⟨v1,rfl,hE,hv⟩;have HV1:=zq hv;have E2:=zq (E1.out.trans hE);have aiR:=zq (HQ1.out.ev hE);clear hv hE)
  | ((with_reducible refine(HO1.out m1 v1 _ (E2.out) aiR.out HM1.out HV1.out).mono ?_);rintro e w3 ⟨x1,rfl,hO,hE⟩;have S_:=zq hO;have E3:=zq (E2.out.trans hE);obtain⟨xA1,xc1,rfl,lq,mW⟩:=hO.form iF;have HC1:=zq lq;clear mW lq hO hE)
  | ((with_reducible refine(HB.out _).mono ?_);rintro e w4 ⟨m2,rfl,hm,hq,hE⟩;have HM2:=zq hm;have HQ2:=zq hq;have E4:=zq ((zq (Ev.refl w3)).out.trans hE);clear hm hq hE)
  | ((with_reducible refine(Vg.out _).mono ?_);rintro e w5 ⟨v2,rfl,hE,hv⟩;have HV2:=zq hv;have E5:=zq (E4.out.trans hE);have aiS:=zq (HQ2.out.ev hE);clear hv hE)
  | ((with_reducible refine(QR.out m2 v2 _ (E3.out.trans E5.out) aiS.out HM2.out HV2.out).mono ?_);rintro e w6 ⟨x2,rfl,hO,hE⟩;have HX2:=zq hO;have E6:=zq (E5.out.trans hE);obtain⟨xA2,xc2,rfl,lq,mW⟩:=hO.form iF;have HC2:=zq lq;clear mW lq hO hE)
  | ((with_reducible refine(HT.out _).mono ?_);rintro e w7 ⟨rfl,hC7,hE⟩;have HK:Hid (Calls ax 12 #[.slice xA1 gZ.length xc1,.slice (some ⟨↑w6,0,none⟩) 3 3] w7 λe w'=>e=.returned (.bool true)/\Ev w7 w'):=zq (Pm w7 (HC1.out.ev (E6.out.trans hE)) hC7);have E7:=zq (E3.out.trans (E6.out.trans hE));clear hC7 hE)
  | ((with_reducible refine(HK.out).mono ?_);rintro e w8 ⟨rfl,hE⟩))
 go_ret;exact⟨rfl,E7.out.trans hE⟩
def A7(b:Nat)(l:List C)(y:Int)(s:ByteArray)(v:au)(w:ak):Prop:=∃x,v=.tuple #[x,↑y,.string s]/\Ow 50 2 dM b w x l
theorem A7.mono(b:Nat)(l:List C)(y:Int)(s:ByteArray):ru (A7 b l y s):=λv w w' hE ⟨x,e,h⟩=>⟨x,e,h.ev hE⟩
def A8(b:Nat)(l:List C)(v:au)(w:ak):Prop:=Ow 50 2 dM b w v l
theorem A8.mono(b:Nat)(l:List C):ru (A8 b l):=λv w w' hE h=>h.ev hE
theorem afQ{D:List DM}{i:Nat}{d:DM}{nm:By}(hd:D[i]?=some d)(h0:∀x∈D.take i,(x.name==nm)=false)(h:(d.name==nm)=true):outT (o_ (D.map DM.df) nm)=(d.cols,0,⟨#[]⟩):=by
 obtain⟨hi,e⟩:=awz.1 hd;have hf:(D.map DM.df).find? (λd=>d.1==nm)=some d.df:=by
  have hl:D=D.take i++d::D.drop (i+1):=by rw[<-e,ax8,axs]
  rw[hl,awM,List.find?_append,show ((D.take i).map DM.df).find? (λd=>d.1==nm)=none from by
   rw[ax9];intro x hx;obtain⟨y,hy,rfl⟩:=aw6.1 hx;have:=h0 y hy;show ¬(y.name==nm)=true;rw[this];decide]
  rw[awI,List.find?_cons,show ((d.df).1==nm)=true from h];rfl
 unfold o_;rw[hf];rfl
theorem aiT{D:List DM}{nm:By}(h0:∀x∈D,(x.name==nm)=false):outT (o_ (D.map DM.df) nm)=([],20,aY nm):=by
 have hf:(D.map DM.df).find? (λd=>d.1==nm)=none:=by rw[ax9];intro x hx;obtain⟨y,hy,rfl⟩:=aw6.1 hx;show ¬(y.name==nm)=true;rw[h0 y hy];decide
 unfold o_;rw[hf];rfl
theorem UT{e:T}{kid:List C}(h:(xType kid e).2≠0):outT (mi e kid)=([],(xType kid e).2,⟨#[]⟩):=by
 have e1:(CR.of kid).kind kid e=⟨kid,(xType kid e).2,⟨#[]⟩⟩:=by unfold CR.kind;rw[if_neg h,CR.jo rfl];rfl
 unfold mi;simp only[e1];rw[CR.jh (show (⟨kid,(xType kid e).2,⟨#[]⟩⟩:CR).why≠0 from h),ite_self,Fb h]
theorem UU{e:T}{kid:List C}(h:(xType kid e).2=0)(h1:¬(xType kid e).1=1):outT (mi e kid)=([],22,⟨#[]⟩):=by
 have e1:(CR.of kid).kind kid e=CR.of kid:=by unfold CR.kind;rw[if_pos h]
 unfold mi;simp only[e1];rw[if_neg h1,CR.jo rfl];rfl
theorem aau{e:T}{kid:List C}(h:(xType kid e).2=0)(h1:(xType kid e).1=1):outT (mi e kid)=(kid,0,⟨#[]⟩):=by
 have e1:(CR.of kid).kind kid e=CR.of kid:=by unfold CR.kind;rw[if_pos h]
 unfold mi;simp only[e1];rw[if_pos h1];rfl
theorem RD(a b:List C):tY (nO a b):=λr i h=>by unfold nO;split;exact⟨rfl,rfl⟩;rw[CR.jh h];exact⟨rfl,rfl⟩
theorem aav{a b:List C}(h:¬a.length=b.length):outT (oz a b)=([],23,⟨#[]⟩):=by unfold oz;rw[if_neg h,CR.jo rfl];rfl
theorem Pq{a b:List C}{k:Nat}{c d:C}(hc:a[k]?=some c)(hd:b[k]?=some d)(r:CR):nO a b r k=if c.2=d.2 then r else r.fail 22 c.1:=by unfold nO;rw[Jj hc,Jj hd]
theorem Xw{a b:List C}{k:Nat}{c d:C}(hl:a.length=b.length)(hc:a[k]?=some c)(hd:b[k]?=some d)(h0:(List.range k).foldl (nO a b) (CR.of a)=CR.of a)(hk:¬c.2=d.2):outT (oz a b)=([],22,c.1):=by
 have hka:=(awz.1 hc).1;have h1:=tY.stop (RD a b) (l:=List.range a.length) (k:=k) (x:=k) (r:=CR.of a) (y:=22) (s:=c.1) (by simp[hka]) ai (by
  rw[List.take_range,Nat.min_eq_left ae,h0,Pq hc hd,if_neg hk,CR.jo rfl];exact⟨rfl,rfl⟩)
 unfold oz;rw[if_pos hl,Fb (by rw[h1.1];decide),h1.1,h1.2]
theorem adA{a b:List C}(hl:a.length=b.length)(h0:(List.range a.length).foldl (nO a b) (CR.of a)=CR.of a):outT (oz a b)=(a,0,⟨#[]⟩):=by unfold oz;rw[if_pos hl,h0];rfl
theorem aCk(h:U:=by refine aF λa wq c=>⟨(ay rfl),_,run_move _ rfl wq,(c.was 7 rfl)⟩):U:=h
theorem aCb(h:U:=by have hc:=FN.out wq c.ev;generalize a.eval=ρ at bC|-;simp[execOp,bC,hc,go_sem]):U:=h
theorem aBj(h:U:=by
 have e71:a.eval (.tmp 71)=.tuple #[↑T1,↑T2]:=(c.new 8 71)
 generalize a.eval=ρ at e71|-;simp[execOp,e71,go_sem]):U:=h
theorem aAI(h:U:=by refine aF λa wq c=>⟨(ay rfl),_,xK rfl ((c.was 2 rfl):a.eval (.tmp 2)=.pointer ↑w) (rq.out wq (ES.out.trans c.ev)) underlying32 rfl Tryz.bY,rfl⟩):U:=h
theorem aBD(h:U:=by refine(HT.out wq c.ev).mono ?_;rintro e wp ⟨x_,rfl,hO_,mX⟩;exact⟨_,rfl,mX,x_,rfl,hO_.wK c.ev.size⟩):U:=h
theorem aCa(h:U:=by refine⟨(ay rfl),x_,?_,h_⟩;generalize a.eval=ρ at e_|-;simp[execOp,e_,go_sem]):U:=h
theorem aB3(h:U:=by refine⟨(ay rfl),↑UW,?_,rfl⟩;generalize a.eval=ρ at e_|-;simp[execOp,e_,go_sem]):U:=h
theorem aBV(h:U:=by refine⟨(ay rfl),.string UX,?_,rfl⟩;generalize a.eval=ρ at e_|-;simp[execOp,e_,go_sem]):U:=h
theorem aAm(h:U:=by
 change Exit.then _ _ .normal ⟨_,_⟩ _;simp only[List.range,List.range.loop,List.map];simp only[f2,f7,f5,f6];clear hold hnew;go_wp2
 go_ret3
 rw[yl.out];exact⟨_,rfl,Ow.wK wH EW.out.size,EW.out.trans Bg⟩):U:=h
theorem ay'(h:U:=by intro s w6 Bg hold hnew;have wH:A8 wo.heap.size YA (s 4) w6:=hnew 8 4;have f2:s 2=.pointer ↑w:=hold 2;have f7:s 7=.slice ↑bz 1 zc:=hold 7;have f5:s 5=↑UW:=hnew 9 5;have f6:s 6=.string UX:=hnew 10 6;exact aAm):U:=h
theorem afR(N:Nat):∀(m:PM) (b0:Nat) (D:List DM) (DA:Option Addr) (dn jJ:Nat) (w:ak),m.dep<=N->Qx b0 [] w m->m.p.good->m.p.fit->pV w DA dn jJ D->(∀d∈D,0<d.cols.length/\d.cols.length<=6)->
  Calls ax 24 #[.agg ↑m,.slice DA dn jJ] w (je (outT (ckOf (D.map DM.df) m.p)) w):=by
 induction N with
 | zero=>
  intro m b0 D DA dn jJ w hd;rw[PM.lh]at hd;omega
 | succ N ih=>
  intro m b0 D DA dn jJ w hd hQ hg hf Ym hDl;have ed:Tryz.prog.follows .mixedOrders=true:=ah;obtain⟨hgh,hgk⟩:=acO hg;obtain⟨hfh,hfk⟩:=Yh hf;have lM:Hid (∀x∈m.kids,∀w1,Ev w w1->Calls ax 24 #[.agg ↑x,.slice DA dn jJ] w1 (je (outT (ckOf (D.map DM.df) x.p)) w1)):=zq λx hx w1 hE=>ih x b0 D DA dn jJ w1 (by have:=PM.jY hx;omega) ((hQ.kid x hx).ev hE) (hgk x hx) (hfk x hx) (Ym.ev hE) hDl;have HD6:Hid (∀p,(ckOf (D.map DM.df) p).why=0->(ckOf (D.map DM.df) p).cols.length<=6):=zq λp=>LK (λd hd=>by obtain⟨x,hx,rfl⟩:=aw6.1 hd;exact(hDl x hx).2) p;have HDS:Hid (∀w1,Ev w w1->pV w1 DA dn jJ D):=zq λw1 hE=>Ym.ev hE;have HDL:=zq hDl;have YH:=Ym.sl.le;have hdm:=Ym.sl.max;have HDN:=zq Ym.sl.len;have HTH:=zq (λi d (hd:D[i]?=some d) h0 h=>afQ (nm:=m.name) hd h0 h);have HTN:=zq (λh0=>aiT (D:=D) (nm:=m.name) h0);have HKB:Hid (∀k Z (x:PM),NV (D.map DM.df) m.kids k Z->m.kids[k]?=some x->(ckOf (D.map DM.df) x.p).why≠0->ckOf (D.map DM.df) m.p=ckOf (D.map DM.df) x.p):=zq λk Z x h hx h0=>NV.bad h hx h0;have HKF:=zq (λZ (h:NV (D.map DM.df) m.kids m.kids.length Z)=>NV.fin h);obtain⟨D2,hD2⟩:∃D2,D2=D.map DM.df:=⟨_,rfl⟩
  rw[<-hD2]at lM HD6 HKB HKF HTH HTN|-;obtain⟨CK,hCK⟩:∃CK,CK=ckOf D2 m.p:=⟨_,rfl⟩
  rw[<-hCK]at HKB HKF|-;have zA:=hQ.ps;have hkn:=zA.le;have Vy:=zA.max;have DN:Hid (∀w1,Ev w w1->Ps w1 m.A m.kids.length m.cap m.kids):=zq λw1 hE=>zA.ev hE;have HQ:=zq hQ;have HGH:=zq hgh;have Ve:=zq hfh;have xO:m.kids.length<=10000:=hfh.2.2.2.2.2.2.2;obtain⟨w0,hw0,aV,o8,hs0⟩:=vV w m;have cu:=zq aV;have rq:Hid (∀w1,Ev w0 w1->Bx 32 w.heap.size ↑m w1):=zq λw1 hE=>o8.ev hE;obtain⟨⟨q0,q1,q2,q3,q4,q5,q6,q7⟩,_⟩:=o8.eight;have qX:Hid (∀k x,m.kids[k]?=some x->x∈m.kids):=zq λk x h=>awG h;unfold je;clear hQ hg hf Ym hDl hgh hgk hfh hfk hD2 hCK ih hd zA aV o8 hs0;generalize VP:m.A=mA at*;generalize hmn:m.kids.length=nk at*;generalize hmc:m.cap=mc at*;generalize hmk:m.kind=kd at*;have HMA:=zq VP;have HMC:=zq hmc;clear VP hmc;have Vf:=zq hmn;clear hmn;go_enter func24,ntmps24;go_wp2;clear q0 q1 q2 q3 q4 q5 q6 q7
  go_loopw [7,8] (λzv iv wr=>∃(k:Nat) (Z:List (fH C)) (ZA:Option Addr) (zc:Nat),zv=.slice ZA k zc/\iv=↑k/\k<=nk/\Hid (zO w0 ZA zc Z wr)/\Hid (NV D2 m.kids k Z)) (λ_ iv _=>nk-(intOf iv).toNat)
  case atStart=>exact⟨0,[],none,0,rfl,rfl,awJ _,zq (zO.start w0),zq ⟨rfl,(λr hr=>by simp at hr),aj⟩⟩
  case round=>
   obtain⟨k,Z,ZA,zc,rfl,rfl,hk,HS,HI⟩:=hrel;have hzl:=HI.out.len;subst hzl;obtain⟨⟨q0,q1,q2,q3,q4,q5,q6,q7⟩,_⟩:=(rq.out wr HS.out.ev).eight;by_cases hlt:Z.length<nk
   ·obtain⟨x,hx⟩:=(DN.out _ (cu.out.trans HS.out.ev)).at hlt;obtain⟨bk,ok,rfl,hbk,_⟩:=(DN.out _ (cu.out.trans HS.out.ev)).rd ae;obtain⟨x0,x1,x2,x3,x4,x5,x6,x7⟩:=Ps.cell (DN.out _ (cu.out.trans HS.out.ev)) hx;unfold fH.v PM.kv at*;have gJ:=qX.out _ x hx;have Yn:=zq (lM.out x gJ wr (cu.out.trans HS.out.ev));unfold je at Yn;have HX:=zq hx;obtain⟨R,hR⟩:∃R,R=ckOf D2 x.p:=⟨_,rfl⟩
    rw[<-hR]at Yn;have HR:=zq hR;have i1:(0:Int)<=(Z.length:Int):=ae;have i2:(Z.length:Int)<(nk:Int):=ae;have hsw:=HS.out.ev.size;clear hx gJ hR;by_cases hw:R.why=0
    ·have HNX:Hid (∀z:fH C,z.l=R.cols->NV D2 m.kids (Z.length+1) (Z++[z])):=zq λz hz=>HI.out.next HX.out (by rw[<-HR.out];exact hw) (by rw[hz,HR.out])
     rw[Yw hw]at Yn;simp only at Yn;clear hw
     go_wp2_with (first
      | ((with_reducible refine(Yn.out).mono ?_);rintro r_ w6 ⟨v,rfl,hO,lS⟩;obtain⟨vA,vc,rfl,lq,mW⟩:=hO.form iF;clear lq mW;have E6:=zq lS;have HO:=zq hO;have hzl:Z.length<=10000:=ae;clear hO lS)
      | ((show wpList _ _ _ (⟨some 41,_,_,_,_,_⟩::_) _ _);refine aO (o:=⟨some 41,_,_,_,_,_⟩) rfl 71 (.tmp 38) (.tmp 40) rfl ZR underlying71 Tryz.Uw rfl rfl (HS.out.up (E6.out.trans aB)).own ↑w6 1 1 [⟨vA,vc,R.cols⟩] rfl (by have:=Sl.one (et:=24) ZR w6 ⟨vA,vc,R.cols⟩ #[.slice vA R.cols.length vc] rfl;simpa using this) (by simp;omega) (by simp;omega) (by have:=E6.out.size;simp;omega) ?_;intro v2 w7 dY;obtain⟨A2,cap2,rfl,hN7⟩:=HS.out.next (awC _) (E6.out.trans aB) (HO.out.ev aB) dY;have HN7:=zq hN7;clear hN7 dY))
     exact aAS
    have hwn:(R.why !=0)=true:=by simp[hw]
    have WW:Hid (CK=R):=zq (by rw[HR.out];exact HKB.out _ _ x HI.out HX.out (by rw[<-HR.out];exact hw));rw[Fb hw]at Yn;simp only at Yn;have HRB:Hid (outT CK=([],R.why,R.name)):=zq (by rw[WW.out,Fb hw]);clear hw
    go_wp2_with (first
     | ((with_reducible refine(Yn.out).mono ?_);rintro r_ w6 ⟨v,rfl,hO,lS⟩;obtain⟨vA,vc,rfl,lq,mW⟩:=hO.form iF;clear lq mW;have E6:=zq lS;clear hO lS))
    go_ret3
    rw[HRB.out];exact⟨_,rfl,Ow.nil_ _,(cu.out.trans HS.out.ev).trans E6.out⟩
   have IK:Z.length=nk:=ae;have HK:=zq (HKF.out Z (by have:=HI.out;rwa [IK]at this));have ZU:=HI.out.small HD6.out;have EW:=zq (cu.out.trans HS.out.ev);have ES:=zq HS.out.ev;obtain⟨wo,rfl⟩:∃wo:ak,wo=wr:=⟨_,rfl⟩
   go_upto_region 10 with fail
   rw[IK];rcases HGH.out with⟨rfl,-,-,-,-,-,-,hn⟩|⟨rfl,-,hes,-,-,-,-,hn⟩|⟨rfl,-,hge,TW,-,-,-,-,-,hn⟩|⟨rfl,-,-,-,-,-,-,hn⟩|⟨rfl,-,-,-,-,-,-,hn⟩|⟨rfl,-,-,-,-,-,-,hn⟩|⟨rfl,-,-,-,-,-,XY,hn⟩
   ·have xy:Hid (CK=o_ D2 m.name):=HK;clear HK q0 q1 q2 q3 q4 q5 q6 q7;go_wp2
    go_loopw [12] (λiv wr=>∃i:Nat,iv=↑i/\i<=dn/\Hid (∀x∈D.take i,(x.name==m.name)=false)/\Hid (Ev wo wr)) (λiv _=>dn-(intOf iv).toNat)
    case atStart=>exact⟨0,rfl,awJ _,zq (λx hx=>by simp at hx),zq aK⟩
    case round=>
     obtain⟨i,rfl,hi,HNO,HE⟩:=hrel;by_cases hlt2:i<dn
     ·obtain⟨d,hd⟩:=(HDS.out wr (EW.out.trans HE.out)).sl.at hlt2;obtain⟨bd,od,rfl,hbd,d0,d1⟩:=(HDS.out wr (EW.out.trans HE.out)).cell hd;obtain⟨⟨q0,q1,q2,q3,q4,q5,q6,q7⟩,_⟩:=(rq.out wr (ES.out.trans HE.out)).eight;have HDD:=zq hd;have HDC:=zq ((HDS.out wr (EW.out.trans HE.out)).cols d (awG hd));have HDX:=zq (HDL.out d (awG hd)).2;have i1:(0:Int)<=(i:Int):=ae;have i2:(i:Int)<(dn:Int):=ae;clear hd;go_upto_region 14 with fail
      go_quiet (fail)
      generalize EJ:World.drewN _ _=wq;have I4:Ev wr wq:=EJ▸Ev.drewN _ _;have EQ:=zq I4;have EQ0:=zq (HE.out.trans I4);have d1:=(I4.cell (p:=⟨bd,od+i*2+1,none⟩) hbd).trans d1;have yI:bd<wq.heap.size:=awU hbd I4.size;clear EJ d0 I4 q0 q1 q2 q3 q4 q5 q6 q7
      cases hc:(d.name==m.name)
      ·have apT:Hid (∀x∈D.take (i+1),(x.name==m.name)=false):=zq λx hx=>by obtain⟨hk2,e⟩:=awz.1 HDD.out;rw[awH hk2,e]at hx;rcases awV.1 hx with h|h;exact HNO.out x h;simp at h;rw[h];exact hc
       go_wp2;go_roundw
       case rel=>exact⟨i+1,by go_num,ae,apT,EQ0⟩
       case measure=>simp[intOf];omega
      have HF:=zq (HTH.out i d HDD.out HNO.out hc);have hsz:=(EW.out.trans EQ0.out).size
      go_wp2_with (first
       | ((show wpList _ _ _ (⟨some 66,_,_,_,_,_⟩::_) _ _);refine aO (o:=⟨some 66,_,_,_,_,_⟩) rfl 24 (.tmp 60) (.tmp 65) rfl iF underlying24 Tryz.o9 rfl rfl ((jl.new (et:=50) (b:=w.heap.size) hsz).ow (k:=2) (enc:=dM)) d.A d.cols.length d.cap d.cols rfl ((HDC.out.ev EQ.out).ev aB) (by have:=HDX.out;simp;omega) (by have:=HDX.out;simp;omega) (by simp;omega) ?_;intro v2 w8 dY;have E8:=zq (qJ ((EW.out.trans EQ0.out).trans aB) ((jl.new (et:=50) (b:=w.heap.size) hsz).ow (k:=2) (enc:=dM)) (awC _) dY);have HO8:=zq dY.1;clear dY))
      go_ret3
      rw[xy.out,HF.out];exact⟨_,rfl,by have:=HO8.out;simpa using this,E8.out⟩
     obtain rfl:i=dn:=ae;have HF:=zq (HTN.out (by have:=HNO.out;rwa [awS (by rw[HDN.out];exact awC _)]at this));obtain⟨⟨q0,q1,q2,q3,q4,q5,q6,q7⟩,_⟩:=(rq.out wr (ES.out.trans HE.out)).eight;go_upto_region 16 with fail
     go_quiet (fail)
     go_wp2
     go_ret3
     rw[xy.out,HF.out];exact⟨_,rfl,Ow.nil_ _,(EW.out.trans HE.out).trans (Ev.drewN _ _)⟩
   ·subst hn;obtain⟨z,hz⟩:=AU IK;obtain⟨bz,rfl,hbz,DY⟩:=HS.out.cell (i:=0) (x:=z) (by rw[hz];rfl);have hc0:=DY wo aK;have FN:=zq DY;have Xx:=zq (HS.out.kid (i:=0) (z:=z) (by rw[hz];rfl) (Ev.refl wo));have Xy:=zq (yC Xx.out).1;obtain⟨e,RF,hge⟩:=hes;obtain⟨xe,U3⟩:=agK RF;have gJ:xe∈m.ex.l:=by rw[U3];simp
    have het:xe.t=e:=by rw[U3]at RF;simpa using RF
    have iH:=(HQ.out.ev EW.out).at.1.sl;obtain⟨be,oe,hAe,afS,e0,e1,e2,e3⟩:=Es.cell iH (i:=0) (x:=xe) (by rw[U3];rfl);unfold M.kv at e3;simp only[axi,aw2]at e0 e1 e2 e3;have xy:Hid (CK=mi xe.t z.l):=zq (by rw[HK.out,hz,U3];rfl);have hel:m.ex.l.length=1:=by rw[U3];rfl
    have HAE:=zq hAe;have apU:=zq hel;have HFE:=zq (Ve.out.2.1 xe.t (aw9 gJ)).2;have HGE:Hid (xe.t.every dh=true):=zq (by rw[het];exact hge.fair);have TS:=zq ((HQ.out.at.2.1 xe gJ).ev EW.out);clear HK RF hel iH U3 het hge gJ hAe hc0;have HXC:Hid (∀wz,Ev wo wz->wz.cell? ⟨be,oe,none⟩=some ↑xe.kind/\wz.cell? ⟨be,oe+1,none⟩=some ↑xe.s/\wz.cell? ⟨be,oe+2,none⟩=some ↑xe.n/\wz.cell? ⟨be,oe+3,none⟩=some (.slice xe.A xe.kids.length xe.cap)):=zq λwz hE=>⟨(hE.cell (p:=⟨_,_,none⟩) afS).trans e0,(hE.cell (p:=⟨_,_,none⟩) afS).trans e1,(hE.cell (p:=⟨_,_,none⟩) afS).trans e2,(hE.cell (p:=⟨_,_,none⟩) afS).trans e3⟩
    have HSE:Hid (∀wz,Ev w0 wz->wz.cell? ⟨w.heap.size,2,none⟩=some (.slice ↑(be,oe) 1 m.ex.cap)):=zq λwz hE=>by obtain⟨⟨q0,q1,q2,q3,q4,q5,q6,q7⟩,_⟩:=(rq.out wz hE).eight;rw[HAE.out,apU.out]at q2;exact q2
    have HT:=zq (λwz (hE:Ev wo wz)=>XX xe b0 wz z.A z.l.length z.cap z.l (TS.out.ev hE) (Xy.out.ev hE) (by have:=HFE.out.1;omega) HGE.out);unfold xZ M.kv at HT;have HFT:=zq (λh=>UT (e:=xe.t) (kid:=z.l) h);have LU:=zq (λh h1=>UU (e:=xe.t) (kid:=z.l) h h1);have CP:=zq (λh h1=>aau (e:=xe.t) (kid:=z.l) h h1);generalize xType z.l xe.t=TY at*;obtain⟨T1,T2⟩:=TY;simp only at HT HFT LU CP;go_upto_region 18 with fail
    refine bV ed [λv _=>v=.pointer (some ⟨w.heap.size,2,none⟩),λv _=>v=.slice ↑(be,oe) 1 m.ex.cap,λv _=>v=.pointer ↑(be,oe),λv _=>v=.agg ↑(xe,()),λv _=>v=.slice ↑bz 1 zc,λv _=>v=.pointer ↑bz,λv _=>v=.slice z.A z.l.length z.cap,λv _=>v=.tuple #[↑T1,↑T2],λv _=>v=.tuple #[↑T1,↑T2],λv _=>v=↑T1,λv _=>v=↑T2,λv _=>v=↑T1,λv _=>v=↑T2]
     170 rfl ah ⟨az _,az _,az _,az _,az _,az _,az _,az _,az _,az _,az _,az _,az _,trivial⟩ ?_ ?_
    ·refine aC 0 ?_ (aC 1 ?_ (aC 2 ?_ (aC 3 ?_ (aC 4 ?_ (aC 5 ?_ (aC 6 ?_ (aC 7 ?_ (aC 8 ?_ (aC 9 ?_ (aC 10 ?_ (aC 11 ?_ (aC 12 ?_ (iT 13)))))))))))));refine aF λa wq c=>⟨(ay rfl),.pointer (some ⟨w.heap.size,2,none⟩),?_,rfl⟩
     exact aBG
     ·refine aF λa wq c=>⟨(ay rfl),.slice ↑(be,oe) 1 m.ex.cap,?_,rfl⟩
      have bC:a.eval (.tmp 72)=.pointer (some ⟨w.heap.size,2,none⟩):=(c.new 0 72)
      have hc:=HSE.out wq (ES.out.trans c.ev);generalize a.eval=ρ at bC|-;simp[execOp,bC,hc,go_sem]
     ·refine aF λa wq c=>⟨(ay rfl),.pointer ↑(be,oe),?_,rfl⟩
      have e73:a.eval (.tmp 73)=.slice ↑(be,oe) 1 m.ex.cap:=(c.new 1 73)
      have j_:a.eval (.const (.int .i64 0))=.int .i64 0:=rfl;generalize a.eval=ρ at e73 j_|-;simp[execOp,e73,j_,go_sem]
     ·refine aF λa wq c=>⟨(ay rfl),.agg ↑(xe,()),?_,rfl⟩
      have bC:a.eval (.tmp 74)=.pointer ↑(be,oe):=(c.new 2 74)
      obtain⟨c0,c1,c2,c3⟩:=HXC.out wq c.ev;generalize a.eval=ρ at bC|-;simp[execOp,bC,c0,c1,c2,c3,go_sem]
     exact aCk
     ·refine aF λa wq c=>⟨(ay rfl),.pointer ↑bz,?_,rfl⟩
      have e76:a.eval (.tmp 76)=.slice ↑bz 1 zc:=(c.new 4 76)
      have j_:a.eval (.const (.int .i64 0))=.int .i64 0:=rfl;generalize a.eval=ρ at e76 j_|-;simp[execOp,e76,j_,go_sem]
     refine aF λa wq c=>⟨(ay rfl),.slice z.A z.l.length z.cap,?_,rfl⟩
     have bC:a.eval (.tmp 77)=.pointer ↑bz:=(c.new 5 77)
     exact aCb;refine ig λa wq c=>⟨(ay rfl),44,#[.agg ↑(xe,()),.slice z.A z.l.length z.cap],?_,?_⟩
     rw[bT 44 _ _ rfl ah];have e75:a.eval (.tmp 75)=.agg ↑(xe,()):=(c.new 3 75)
     have e78:a.eval (.tmp 78)=.slice z.A z.l.length z.cap:=(c.new 6 78)
     simp[e75,e78];refine(HT.out wq c.ev).mono ?_;rintro e wp ⟨rfl,hE⟩;exact⟨_,rfl,hE,rfl⟩;refine aF λa wq c=>⟨(ay rfl),_,run_move _ rfl wq,(c.new 7 79)⟩
     refine aF λa wq c=>⟨(ay rfl),↑T1,?_,rfl⟩
     exact aBj;refine aF λa wq c=>⟨(ay rfl),↑T2,?_,rfl⟩
     exact aBj;refine aF λa wq c=>⟨(ay rfl),_,run_assign _ rfl wq,(c.new 9 80)⟩
     refine aF λa wq c=>⟨(ay rfl),_,run_assign _ rfl wq,(c.new 10 81)⟩
    intro s w6 Bg hold hnew;have f2:s 2=.pointer ↑w:=hold 2;have f7:s 7=.slice ↑bz 1 zc:=hold 7;have f13:s 13=↑T1:=hnew 11 13;have f14:s 14=↑T2:=hnew 12 14;change Exit.then _ _ .normal ⟨_,_⟩ _;simp only[List.range,List.range.loop,List.map];simp only[f2,f7,f13,f14];clear hold hnew;have E6:=zq Bg;have hc0:=FN.out w6 Bg;by_cases hT:T2=0
    ·subst hT;by_cases hT1:T1=1
     ·have hb1:(T1==1)=true:=by simp[hT1]
      have hb2:(T1 !=1)=false:=by simp[hT1]
      have HF:=zq (CP.out rfl hT1);clear HFT LU CP hT1;go_wp2
      go_ret3
      rw[xy.out,HF.out];exact⟨_,rfl,(Xx.out.ev E6.out).wK cu.out.size,EW.out.trans E6.out⟩
     have hb1:(T1==1)=false:=awy.2 hT1;have hb2:(T1 !=1)=true:=by simp[hT1]
     have HF:=zq (LU.out rfl hT1);clear HFT LU CP hT1;go_wp2
     go_ret3
     rw[xy.out,HF.out];exact⟨_,rfl,Ow.nil_ _,EW.out.trans E6.out⟩
    have hTb:(T2 !=0)=true:=axI.2 hT;have HF:=zq (HFT.out hT);clear HFT LU CP hT;go_wp2
    go_ret3
    rw[xy.out,HF.out];exact⟨_,rfl,Ow.nil_ _,EW.out.trans E6.out⟩
   ·subst hn;obtain⟨z,hz⟩:=AU IK;obtain⟨bz,rfl,hbz,DY⟩:=HS.out.cell (i:=0) (x:=z) (by rw[hz];rfl);have hc0:=DY wo aK;have FN:=zq DY;have Xx:=zq (HS.out.kid (i:=0) (z:=z) (by rw[hz];rfl) (Ev.refl wo));have Xy:=zq (yC Xx.out).1;have xy:Hid (CK=mM (m.ex.l.map M.t) m.co.l z.l):=zq (by rw[HK.out,hz];rfl);have HEL:Hid (m.ex.l.length=m.co.l.length):=zq (by have:=TW;rwa [awD]at this);have aij:Hid (m.ex.l.length<=10000):=zq (by have:=Ve.out.2.2.2.1;rwa [awD]at this);have HGE:Hid (∀e∈m.ex.l,e.t.size<=100000/\e.t.every dh=true):=zq λe he=>⟨by have:=(Ve.out.2.1 e.t (aw9 he)).2.1;omega,(hge e.t (aw9 he)).fair⟩
    clear HK TW hge;have HT:=zq (λwz (hE:Ev wo wz)=>UN m b0 wz (HQ.out.ev (EW.out.trans hE)) z.l z.A z.l.length z.cap (Xy.out.ev hE) HEL.out aij.out HGE.out);rw[hmk,Vf.out,HMA.out,HMC.out]at HT;unfold je at HT;have yl:Hid (outT CK=outT (mM (m.ex.l.map M.t) m.co.l z.l)):=zq (by rw[xy.out]);generalize outT (mM (m.ex.l.map M.t) m.co.l z.l)=RO at*;obtain⟨YA,UW,UX⟩:=RO;simp only at HT yl;clear hc0;go_upto_region 25 with fail
    refine bV ed [λv _=>v=.agg #[.int .i64 3,↑m.name,.slice m.ex.A m.ex.l.length m.ex.cap,.slice m.co.A m.co.l.length m.co.cap,.slice m.lf.A m.lf.l.length m.lf.cap,.slice m.rt.A m.rt.l.length m.rt.cap,.slice m.ag.A m.ag.l.length m.ag.cap,.slice mA 1 mc],λv _=>v=.slice ↑bz 1 zc,λv _=>v=.pointer ↑bz,λv _=>v=.slice z.A z.l.length z.cap,A7 wo.heap.size YA UW UX,A8 wo.heap.size YA,λv _=>v=↑UW,λv _=>v=.string UX,A8 wo.heap.size YA,λv _=>v=↑UW,λv _=>v=.string UX]
     170 rfl ah ⟨az _,az _,az _,az _,A7.mono _ _ _ _,A8.mono _ _,az _,az _,A8.mono _ _,az _,az _,trivial⟩ ?_ ?_
    ·refine aC 0 ?_ (aC 1 ?_ (aC 2 ?_ (aC 3 ?_ (aC 4 ?_ (aC 5 ?_ (aC 6 ?_ (aC 7 ?_ (aC 8 ?_ (aC 9 ?_ (aC 10 ?_ (iT 11)))))))))));exact aAI;exact aCk
     ·refine aF λa wq c=>⟨(ay rfl),.pointer ↑bz,?_,rfl⟩
      have e93:a.eval (.tmp 93)=.slice ↑bz 1 zc:=(c.new 1 93)
      have j_:a.eval (.const (.int .i64 0))=.int .i64 0:=rfl;generalize a.eval=ρ at e93 j_|-;simp[execOp,e93,j_,go_sem]
     refine aF λa wq c=>⟨(ay rfl),.slice z.A z.l.length z.cap,?_,rfl⟩
     have bC:a.eval (.tmp 94)=.pointer ↑bz:=(c.new 2 94)
     exact aCb;refine ig λa wq c=>⟨(ay rfl),45,#[.agg #[.int .i64 3,↑m.name,.slice m.ex.A m.ex.l.length m.ex.cap,.slice m.co.A m.co.l.length m.co.cap,.slice m.lf.A m.lf.l.length m.lf.cap,.slice m.rt.A m.rt.l.length m.rt.cap,.slice m.ag.A m.ag.l.length m.ag.cap,.slice mA 1 mc],.slice z.A z.l.length z.cap],?_,?_⟩
     rw[bT 45 _ _ rfl ah];have bC:a.eval (.tmp 92)=.agg #[.int .i64 3,↑m.name,.slice m.ex.A m.ex.l.length m.ex.cap,.slice m.co.A m.co.l.length m.co.cap,.slice m.lf.A m.lf.l.length m.lf.cap,.slice m.rt.A m.rt.l.length m.rt.cap,.slice m.ag.A m.ag.l.length m.ag.cap,.slice mA 1 mc]:=(c.new 0 92)
     have iO:a.eval (.tmp 95)=.slice z.A z.l.length z.cap:=(c.new 3 95)
     simp[bC,iO];exact aBD;refine aF λa wq c=>?_;obtain⟨x_,e_,h_⟩:=(c.got 4 96 ah ah rfl:A7 _ _ _ _ _ _)
     exact aCa;refine aF λa wq c=>?_;obtain⟨x_,e_,h_⟩:=(c.got 4 96 ah ah rfl:A7 _ _ _ _ _ _)
     exact aB3;refine aF λa wq c=>?_;obtain⟨x_,e_,h_⟩:=(c.got 4 96 ah ah rfl:A7 _ _ _ _ _ _)
     exact aBV;refine aF λa wq c=>⟨(ay rfl),_,run_assign _ rfl wq,(c.new 5 97)⟩
     refine aF λa wq c=>⟨(ay rfl),_,run_assign _ rfl wq,(c.new 6 98)⟩
     refine aF λa wq c=>⟨(ay rfl),_,run_assign _ rfl wq,(c.new 7 99)⟩
    exact ay'
   ·subst hn;obtain⟨z,y,hz⟩:=yZ IK;obtain⟨bz,rfl,hbz,DY⟩:=HS.out.cell (i:=0) (x:=z) (by rw[hz];rfl);have hc0:=DY wo aK;have FN:=zq DY;have N7:Hid (∀w1,Ev wo w1->w1.cell? ⟨bz,1,none⟩=some (.slice y.A y.l.length y.cap)):=zq λw1 hE=>by
     obtain⟨b2,e2,_,hcy⟩:=HS.out.cell (i:=1) (x:=y) (by rw[hz];rfl)
     cases e2
     exact hcy w1 hE
    have hc1:=N7.out wo aK;have Xx:=zq (HS.out.kid (i:=0) (z:=z) (by rw[hz];rfl) (Ev.refl wo));have Xy:=zq (yC Xx.out).1;have TC:=zq (yC (HS.out.kid (i:=1) (z:=y) (by rw[hz];rfl) (Ev.refl wo))).1;have HZL:Hid (z.l.length<=6):=zq (ZU z (by rw[hz];simp));have HYL:Hid (y.l.length<=6):=zq (ZU y (by rw[hz];simp));have xy:Hid (CK=lT m.lf.l m.rt.l z.l y.l):=zq (by rw[HK.out,hz];rfl);clear HK;have HT:Hid (∀wz,Ev wo wz->Calls ax 46 #[.agg ↑m,.slice z.A z.l.length z.cap,.slice y.A y.l.length y.cap] wz (je (outT (lT m.lf.l m.rt.l z.l y.l)) wz)):=by by_cases hj:m.lf.l.length=m.rt.l.length/\m.lf.l.length≠0;exact zq λwz hE=>Xu m b0 wz (HQ.out.ev (EW.out.trans hE)) z.l y.l z.A y.A z.l.length z.cap y.l.length y.cap (Xy.out.ev hE) (TC.out.ev hE) Ve.out.2.2.2.2.1 (by have:=HZL.out;omega) (by have:=HYL.out;omega) hj;exact zq λwz hE=>UQ m b0 wz (HQ.out.ev (EW.out.trans hE)) z.l y.l z.A y.A z.l.length z.cap y.l.length y.cap hj
    rw[hmk,Vf.out,HMA.out,HMC.out]at HT;unfold je at HT;have yl:Hid (outT CK=outT (lT m.lf.l m.rt.l z.l y.l)):=zq (by rw[xy.out]);generalize outT (lT m.lf.l m.rt.l z.l y.l)=RO at*;obtain⟨YA,UW,UX⟩:=RO;simp only at HT yl;clear hc0 hc1;go_upto_region 27 with fail
    refine bV ed [λv _=>v=.agg #[.int .i64 4,↑m.name,.slice m.ex.A m.ex.l.length m.ex.cap,.slice m.co.A m.co.l.length m.co.cap,.slice m.lf.A m.lf.l.length m.lf.cap,.slice m.rt.A m.rt.l.length m.rt.cap,.slice m.ag.A m.ag.l.length m.ag.cap,.slice mA 2 mc],λv _=>v=.slice ↑bz 2 zc,λv _=>v=.pointer ↑bz,λv _=>v=.slice z.A z.l.length z.cap,λv _=>v=.slice ↑bz 2 zc,λv _=>v=.pointer (some ⟨bz,1,none⟩),λv _=>v=.slice y.A y.l.length y.cap,A7 wo.heap.size YA UW UX,A8 wo.heap.size YA,λv _=>v=↑UW,λv _=>v=.string UX,A8 wo.heap.size YA,λv _=>v=↑UW,λv _=>v=.string UX]
     170 rfl ah ⟨az _,az _,az _,az _,az _,az _,az _,A7.mono _ _ _ _,A8.mono _ _,az _,az _,A8.mono _ _,az _,az _,trivial⟩ ?_ ?_
    ·refine aC 0 ?_ (aC 1 ?_ (aC 2 ?_ (aC 3 ?_ (aC 4 ?_ (aC 5 ?_ (aC 6 ?_ (aC 7 ?_ (aC 8 ?_ (aC 9 ?_ (aC 10 ?_ (aC 11 ?_ (aC 12 ?_ (aC 13 ?_ (iT 14))))))))))))));exact aAI;exact aCk
     ·refine aF λa wq c=>⟨(ay rfl),.pointer ↑bz,?_,rfl⟩
      have afs:a.eval (.tmp 103)=.slice ↑bz 2 zc:=(c.new 1 103)
      have j_:a.eval (.const (.int .i64 0))=.int .i64 0:=rfl;generalize a.eval=ρ at afs j_|-;simp[execOp,afs,j_,go_sem]
     refine aF λa wq c=>⟨(ay rfl),.slice z.A z.l.length z.cap,?_,rfl⟩
     have bC:a.eval (.tmp 104)=.pointer ↑bz:=(c.new 2 104)
     exact aCb;exact aCk
     ·refine aF λa wq c=>⟨(ay rfl),.pointer (some ⟨bz,1,none⟩),?_,rfl⟩
      have al4:a.eval (.tmp 106)=.slice ↑bz 2 zc:=(c.new 4 106)
      have j_:a.eval (.const (.int .i64 1))=.int .i64 1:=rfl;generalize a.eval=ρ at al4 j_|-;simp[execOp,al4,j_,go_sem]
     ·refine aF λa wq c=>⟨(ay rfl),.slice y.A y.l.length y.cap,?_,rfl⟩
      have bC:a.eval (.tmp 107)=.pointer (some ⟨bz,1,none⟩):=(c.new 5 107)
      have hc:=N7.out wq c.ev;generalize a.eval=ρ at bC|-;simp[execOp,bC,hc,go_sem]
     refine ig λa wq c=>⟨(ay rfl),46,#[.agg #[.int .i64 4,↑m.name,.slice m.ex.A m.ex.l.length m.ex.cap,.slice m.co.A m.co.l.length m.co.cap,.slice m.lf.A m.lf.l.length m.lf.cap,.slice m.rt.A m.rt.l.length m.rt.cap,.slice m.ag.A m.ag.l.length m.ag.cap,.slice mA 2 mc],.slice z.A z.l.length z.cap,.slice y.A y.l.length y.cap],?_,?_⟩
     rw[bT 46 _ _ rfl ah];have bC:a.eval (.tmp 102)=.agg #[.int .i64 4,↑m.name,.slice m.ex.A m.ex.l.length m.ex.cap,.slice m.co.A m.co.l.length m.co.cap,.slice m.lf.A m.lf.l.length m.lf.cap,.slice m.rt.A m.rt.l.length m.rt.cap,.slice m.ag.A m.ag.l.length m.ag.cap,.slice mA 2 mc]:=(c.new 0 102)
     have iO:a.eval (.tmp 105)=.slice z.A z.l.length z.cap:=(c.new 3 105)
     have ZB:a.eval (.tmp 108)=.slice y.A y.l.length y.cap:=(c.new 6 108)
     simp[bC,iO,ZB];exact aBD;refine aF λa wq c=>?_;obtain⟨x_,e_,h_⟩:=(c.got 7 109 ah ah rfl:A7 _ _ _ _ _ _)
     exact aCa;refine aF λa wq c=>?_;obtain⟨x_,e_,h_⟩:=(c.got 7 109 ah ah rfl:A7 _ _ _ _ _ _)
     exact aB3;refine aF λa wq c=>?_;obtain⟨x_,e_,h_⟩:=(c.got 7 109 ah ah rfl:A7 _ _ _ _ _ _)
     exact aBV;refine aF λa wq c=>⟨(ay rfl),_,run_assign _ rfl wq,(c.new 8 110)⟩
     refine aF λa wq c=>⟨(ay rfl),_,run_assign _ rfl wq,(c.new 9 111)⟩
     refine aF λa wq c=>⟨(ay rfl),_,run_assign _ rfl wq,(c.new 10 112)⟩
    intro s w6 Bg hold hnew;have wH:A8 wo.heap.size YA (s 4) w6:=hnew 11 4;have f2:s 2=.pointer ↑w:=hold 2;have f7:s 7=.slice ↑bz 2 zc:=hold 7;have f5:s 5=↑UW:=hnew 12 5;have f6:s 6=.string UX:=hnew 13 6;exact aAm
   ·subst hn;obtain⟨z,y,hz⟩:=yZ IK;obtain⟨bz,rfl,hbz,DY⟩:=HS.out.cell (i:=0) (x:=z) (by rw[hz];rfl);have hc0:=DY wo aK;have FN:=zq DY;have N7:Hid (∀w1,Ev wo w1->w1.cell? ⟨bz,1,none⟩=some (.slice y.A y.l.length y.cap)):=zq λw1 hE=>by
     obtain⟨b2,e2,_,hcy⟩:=HS.out.cell (i:=1) (x:=y) (by rw[hz];rfl)
     cases e2
     exact hcy w1 hE
    have hc1:=N7.out wo aK;have Xx:=zq (HS.out.kid (i:=0) (z:=z) (by rw[hz];rfl) (Ev.refl wo));have Xy:=zq (yC Xx.out).1;have TC:=zq (yC (HS.out.kid (i:=1) (z:=y) (by rw[hz];rfl) (Ev.refl wo))).1;have HZL:Hid (z.l.length<=6):=zq (ZU z (by rw[hz];simp));have HYL:Hid (y.l.length<=6):=zq (ZU y (by rw[hz];simp));have xy:Hid (CK=oz z.l y.l):=zq (by rw[HK.out,hz];rfl);clear HK;have apW:=Xy.out.le;have avj:=Xy.out.max;have apX:=TC.out.le;have avk:=TC.out.max;have HUL:=zq (λh=>aav (a:=z.l) (b:=y.l) h);have HUK:=zq (λhl k c d hc hd h0 hk=>Xw (a:=z.l) (b:=y.l) (k:=k) (c:=c) (d:=d) hl hc hd h0 hk);have HUO:=zq (λhl h0=>adA (a:=z.l) (b:=y.l) hl h0);have tJ:=zq (λk c d (hc:z.l[k]?=some c) (hd:y.l[k]?=some d) r=>Pq hc hd r);obtain⟨zn,hzn⟩:∃zn,zn=z.l.length:=⟨_,rfl⟩
    obtain⟨yn,hyn⟩:∃yn,yn=y.l.length:=⟨_,rfl⟩
    rw[<-hzn]at apW hc0 FN Xy Xx HUL HUO;rw[<-hyn]at apX hc1 N7 TC HUL HUO;have HZN:=zq hzn;have HYN:=zq hyn;clear hzn hyn DY;go_upto_region 29 with fail
    go_quiet (fail)
    generalize EJ:World.drewN _ _=wd;have mO:Ev wo wd:=EJ▸Ev.drewN _ _;have HED:=zq mO;clear EJ hc0 hc1;have hc0:=FN.out wd mO;have hc1:=N7.out wd mO;clear mO;by_cases hl:zn=yn
    ·subst hl;clear HUL;have apZ:=zq (HUO.out rfl);have ap0:=zq (HUK.out (by rw[<-HZN.out,<-HYN.out]));clear HUO HUK;go_wp2;clear hc0 hc1
     go_loopw [15] (λiv wr=>∃i:Nat,iv=↑i/\i<=zn/\Hid ((List.range i).foldl (nO z.l y.l) (CR.of z.l)=CR.of z.l)/\Hid (Ev wo wr)) (λiv _=>zn-(intOf iv).toNat)
     case atStart=>exact⟨0,rfl,awJ _,zq rfl,HED⟩
     case round=>
      obtain⟨i,rfl,hi,BR,HE⟩:=hrel;have hc0:=FN.out wr HE.out;have hc1:=N7.out wr HE.out;by_cases hlt2:i<zn
      ·obtain⟨c,hc⟩:=(Xy.out.ev HE.out).at hlt2;obtain⟨d,hd⟩:=(TC.out.ev HE.out).at hlt2;obtain⟨ba,oa,hza,ka0,ka1⟩:=Cs.qp (Xy.out.ev HE.out) hc;obtain⟨bb,ob,hya,kb0,kb1⟩:=Cs.qp (TC.out.ev HE.out) hd;have HZA:=zq hza;rw[hza]at hc0;rw[hya]at hc1;have i1:(0:Int)<=(i:Int):=ae;have i2:(i:Int)<(zn:Int):=ae;have HP:=zq (tJ.out i c d hc hd (CR.of z.l));have aiU:=zq (ap0.out i c d hc hd BR.out);have HCI:Hid (∀w1,Ev wo w1->w1.cell? ⟨bz,0,none⟩=some (.slice ↑(ba,oa) zn z.cap)/\w1.cell? ⟨ba,oa+i*2,none⟩=some (.string c.1)):=zq λw1 hE=>by have h1:=FN.out w1 hE;rw[HZA.out]at h1;obtain⟨_,_,e,h,_⟩:=Cs.qp (Xy.out.ev hE) hc;rw[HZA.out]at e;cases e;exact⟨h1,h⟩
       clear hza hya hc hd;go_upto_region 34 with fail
       go_quiet (fail)
       generalize EJ:World.drewN _ _=wq;have I4:Ev wr wq:=EJ▸Ev.drewN _ _;have EQ:=zq (HE.out.trans I4);clear EJ I4 hc0 hc1 ka0 ka1 kb0 kb1;obtain⟨hc0,ka0⟩:=HCI.out wq EQ.out;by_cases qW:c.2=d.2
       ·have hb1:(c.2==d.2)=true:=by simp[qW]
        have hb2:(c.2 !=d.2)=false:=by simp[qW]
        have HP2:Hid ((List.range (i+1)).foldl (nO z.l y.l) (CR.of z.l)=CR.of z.l):=zq (by rw[tq,BR.out,HP.out,if_pos qW]);clear qW aiU HP;go_wp2;go_roundw
        case rel=>exact⟨i+1,by go_num,ae,HP2,EQ⟩
        case measure=>simp[intOf];omega
       have hb1:(c.2==d.2)=false:=awy.2 qW;have hb2:(c.2 !=d.2)=true:=by simp[qW]
       have HF:=zq (aiU.out qW);clear qW aiU HP;go_upto_region 35 with fail
       go_quiet (fail)
       go_wp2
       go_ret3
       rw[xy.out,HF.out];exact⟨_,rfl,Ow.nil_ _,(EW.out.trans EQ.out).trans (Ev.drewN _ _)⟩
      obtain rfl:i=zn:=ae;have HF:=zq (apZ.out BR.out);go_wp2
      go_ret3
      rw[xy.out,HF.out];exact⟨_,rfl,(Xx.out.ev HE.out).wK cu.out.size,EW.out.trans HE.out⟩
    have i1:¬((zn:Int)=(yn:Int)):=ae;have i2:((zn:Int)==(yn:Int))=false:=awy.2 i1;have i3:((zn:Int) !=(yn:Int))=true:=by simp;omega
    have i4:(zn==yn)=false:=awy.2 hl;have i5:(zn !=yn)=true:=by simp[hl]
    have HF:=zq (HUL.out hl);go_wp2
    go_ret3
    rw[xy.out,HF.out];exact⟨_,rfl,Ow.nil_ _,EW.out.trans HED.out⟩
   ·subst hn;obtain⟨z,hz⟩:=AU IK;obtain⟨bz,rfl,hbz,DY⟩:=HS.out.cell (i:=0) (x:=z) (by rw[hz];rfl);have hc0:=DY wo aK;have FN:=zq DY;have Xx:=zq (HS.out.kid (i:=0) (z:=z) (by rw[hz];rfl) (Ev.refl wo));have Xy:=zq (yC Xx.out).1;have xy:Hid (CK=CR.of z.l):=zq (by rw[HK.out,hz];rfl);have HF:Hid (outT (CR.of z.l)=(z.l,0,⟨#[]⟩)):=zq rfl;go_wp2
    go_ret3
    rw[xy.out,HF.out];exact⟨_,rfl,Xx.out.wK cu.out.size,EW.out⟩
   subst hn;obtain⟨z,hz⟩:=AU IK;obtain⟨bz,rfl,hbz,DY⟩:=HS.out.cell (i:=0) (x:=z) (by rw[hz];rfl);have hc0:=DY wo aK;have FN:=zq DY;have Xx:=zq (HS.out.kid (i:=0) (z:=z) (by rw[hz];rfl) (Ev.refl wo));have Xy:=zq (yC Xx.out).1;have xy:Hid (CK=ni m.lf.l m.ag.l z.l):=zq (by rw[HK.out,hz];rfl);have HGA:=zq XY;clear HK XY;have HT:=zq (λwz (hE:Ev wo wz)=>aar m b0 wz (HQ.out.ev (EW.out.trans hE)) z.l z.A z.l.length z.cap (Xy.out.ev hE) Ve.out.2.2.2.2.1 Ve.out.2.2.2.2.2.2.1 HGA.out);rw[hmk,Vf.out,HMA.out,HMC.out]at HT;unfold je at HT;have yl:Hid (outT CK=outT (ni m.lf.l m.ag.l z.l)):=zq (by rw[xy.out]);generalize outT (ni m.lf.l m.ag.l z.l)=RO at*;obtain⟨YA,UW,UX⟩:=RO;simp only at HT yl;clear hc0;go_upto_region 38 with fail
   refine bV ed [λv _=>v=.agg #[.int .i64 7,↑m.name,.slice m.ex.A m.ex.l.length m.ex.cap,.slice m.co.A m.co.l.length m.co.cap,.slice m.lf.A m.lf.l.length m.lf.cap,.slice m.rt.A m.rt.l.length m.rt.cap,.slice m.ag.A m.ag.l.length m.ag.cap,.slice mA 1 mc],λv _=>v=.slice ↑bz 1 zc,λv _=>v=.pointer ↑bz,λv _=>v=.slice z.A z.l.length z.cap,A7 wo.heap.size YA UW UX,A8 wo.heap.size YA,λv _=>v=↑UW,λv _=>v=.string UX,A8 wo.heap.size YA,λv _=>v=↑UW,λv _=>v=.string UX]
    170 rfl ah ⟨az _,az _,az _,az _,A7.mono _ _ _ _,A8.mono _ _,az _,az _,A8.mono _ _,az _,az _,trivial⟩ ?_ ?_
   ·refine aC 0 ?_ (aC 1 ?_ (aC 2 ?_ (aC 3 ?_ (aC 4 ?_ (aC 5 ?_ (aC 6 ?_ (aC 7 ?_ (aC 8 ?_ (aC 9 ?_ (aC 10 ?_ (iT 11)))))))))));exact aAI;exact aCk
    ·refine aF λa wq c=>⟨(ay rfl),.pointer ↑bz,?_,rfl⟩
     have e160:a.eval (.tmp 160)=.slice ↑bz 1 zc:=(c.new 1 160)
     have j_:a.eval (.const (.int .i64 0))=.int .i64 0:=rfl;generalize a.eval=ρ at e160 j_|-;simp[execOp,e160,j_,go_sem]
    refine aF λa wq c=>⟨(ay rfl),.slice z.A z.l.length z.cap,?_,rfl⟩
    have bC:a.eval (.tmp 161)=.pointer ↑bz:=(c.new 2 161)
    exact aCb;refine ig λa wq c=>⟨(ay rfl),47,#[.agg #[.int .i64 7,↑m.name,.slice m.ex.A m.ex.l.length m.ex.cap,.slice m.co.A m.co.l.length m.co.cap,.slice m.lf.A m.lf.l.length m.lf.cap,.slice m.rt.A m.rt.l.length m.rt.cap,.slice m.ag.A m.ag.l.length m.ag.cap,.slice mA 1 mc],.slice z.A z.l.length z.cap],?_,?_⟩
    rw[bT 47 _ _ rfl ah];have bC:a.eval (.tmp 159)=.agg #[.int .i64 7,↑m.name,.slice m.ex.A m.ex.l.length m.ex.cap,.slice m.co.A m.co.l.length m.co.cap,.slice m.lf.A m.lf.l.length m.lf.cap,.slice m.rt.A m.rt.l.length m.rt.cap,.slice m.ag.A m.ag.l.length m.ag.cap,.slice mA 1 mc]:=(c.new 0 159)
    have iO:a.eval (.tmp 162)=.slice z.A z.l.length z.cap:=(c.new 3 162)
    simp[bC,iO];exact aBD;refine aF λa wq c=>?_;obtain⟨x_,e_,h_⟩:=(c.got 4 163 ah ah rfl:A7 _ _ _ _ _ _)
    exact aCa;refine aF λa wq c=>?_;obtain⟨x_,e_,h_⟩:=(c.got 4 163 ah ah rfl:A7 _ _ _ _ _ _)
    exact aB3;refine aF λa wq c=>?_;obtain⟨x_,e_,h_⟩:=(c.got 4 163 ah ah rfl:A7 _ _ _ _ _ _)
    exact aBV;refine aF λa wq c=>⟨(ay rfl),_,run_assign _ rfl wq,(c.new 5 164)⟩
    refine aF λa wq c=>⟨(ay rfl),_,run_assign _ rfl wq,(c.new 6 165)⟩
    refine aF λa wq c=>⟨(ay rfl),_,run_assign _ rfl wq,(c.new 7 166)⟩
   exact ay'
theorem adB(m:PM)(b0:Nat)(w:ak)(hQ:Qx b0 [] w m)(hg:m.p.good)(hz:(aH m.p).size<=10000)(hl:(printS (aH m.p)).length<=100000)(ht:dH (printS (aH m.p))=(m.p,0,0)):
  Calls ax 23 #[.agg ↑m] w λe w'=>e=.returned (.string ⟨(printS (aH m.p)).toArray⟩)/\Ev w w':=by
 obtain⟨w0,hw0,aV,o8,hs0⟩:=vV w m;have cu:=zq aV;have rq:Hid (∀w1,Ev w0 w1->Bx 32 w.heap.size ↑m w1):=zq λw1 hE=>o8.ev hE;obtain⟨⟨q0,q1,q2,q3,q4,q5,q6,q7⟩,_⟩:=o8.eight;have YO:=λw1 (hE:Ev w w1)=>QY m.dep m b0 w1 (awC _) (hQ.ev hE) hg hz ae;have hRD:=λw1=>Yv (printS (aH m.p)) w1 hl;rw[ht]at hRD;unfold mG pv fH.v PM.kv at YO;unfold bP at hRD;have hSM:∀(x:PM) (b1:Nat) w1,x.p=m.p->Qx b1 [] w1 x->Ev w w1->Calls ax 43 #[pv m,pv x] w1 (Yes w1):=λx b1 w1 hx wO hE=>Z7 m.dep m x b0 b1 w1 (awC _) (hQ.ev hE) wO hx.symm;unfold Yes pv fH.v PM.kv at hSM;obtain⟨PS,vT⟩:∃PS,PS=printS (aH m.p):=⟨_,rfl⟩
 rw[<-vT]at YO hRD|-;have HTX:=zq YO;have Bq:=zq hRD;have HSM:=zq hSM;clear hQ hg hz hl ht YO hRD hSM vT aV o8 hs0;go_enter func23,ntmps23;go_upto_region 3 with (first
  | ((with_reducible refine(HTX.out _ cu.out).mono ?_);rintro r w1 ⟨rfl,aN⟩;have E1:=zq (cu.out.trans aN);have F1:=zq aN;clear aN)
  | ((with_reducible refine(Bq.out _).mono ?_);rintro r w2 ⟨x,rfl,tX,wO,bM⟩;have Ik:=zq tX;have DW:=zq wO;have E2:=zq (E1.out.trans bM);have F2:=zq (F1.out.trans bM);clear tX wO bM))
 have hBX:=Bx.new 32 ↑x w2;have E3:=zq (E2.out.trans (Ev.alloc w2 (.cells ↑x 32)));have Xb:=(rq.out _ (F2.out.trans (Ev.alloc w2 (.cells ↑x 32))))
 have HSX:=zq (HSM.out x _ _ Ik.out (DW.out.ev (Ev.alloc w2 (.cells ↑x 32))) E3.out);clear q0 q1 q2 q3 q4 q5 q6 q7;obtain⟨⟨q0,q1,q2,q3,q4,q5,q6,q7⟩,_⟩:=Xb.eight;obtain⟨⟨p0,p1,p2,p3,p4,p5,p6,p7⟩,_⟩:=hBX.eight;clear Xb hBX
 go_wp2_with (first
  | ((with_reducible refine(HSX.out).mono ?_);rintro r w4 ⟨rfl,fG⟩;have E4:=zq (E3.out.trans fG);clear fG))
 go_ret;exact⟨rfl,E4.out⟩
theorem afT(m:PM)(b0:Nat)(D:List DM)(DA:Option Addr)(dn jJ:Nat)(w:ak)(hQ:Qx b0 [] w m)(hg:m.p.good)(hf:m.p.fit)(hz:(aH m.p).size<=10000)(hl:(printS (aH m.p)).length<=100000)(ht:dH (printS (aH m.p))=(m.p,0,0))(hne:printS (aH m.p)≠[])(Ym:pV w DA dn jJ D)(hDl:∀d∈D,0<d.cols.length/\d.cols.length<=6)(hGD:acV D):
  Calls ax 10 #[.agg ↑m,.slice DA dn jJ] w (je (outT (ckOf (D.map DM.df) m.p)) w):=by
 obtain⟨w0,hw0,aV,o8,hs0⟩:=vV w m;have cu:=zq aV;have rq:Hid (∀w1,Ev w0 w1->Bx 32 w.heap.size ↑m w1):=zq λw1 hE=>o8.ev hE;obtain⟨⟨q0,q1,q2,q3,q4,q5,q6,q7⟩,_⟩:=o8.eight;have Vg:=zq (λw1 (hE:Ev w w1)=>acW D DA dn jJ w1 (Ym.ev hE) hGD);have BR:=zq (λw1 (hE:Ev w w1)=>adB m b0 w1 (hQ.ev hE) hg hz hl ht);have hOU:=λw1 (hE:Ev w w1)=>afR m.dep m b0 D DA dn jJ w1 (awC _) (hQ.ev hE) hg hf (Ym.ev hE) hDl;unfold je at hOU|-;have HOU:=zq hOU;generalize printS (aH m.p)=PS at*;obtain⟨z,PZ,rfl⟩:∃z PZ,PS=z::PZ:=by
  cases PS with
  | nil=>exact absurd rfl hne
  | cons z l=>exact⟨z,l,rfl⟩
 have hnz:((⟨(z::PZ).toArray⟩:ByteArray).toList==[])=false:=aj;generalize outT (ckOf (D.map DM.df) m.p)=R at*;clear hQ hg hf hz hl ht hne Ym hDl hGD hOU aV o8 hs0;go_enter func10,ntmps10
 go_wp2_with (first
  | ((with_reducible refine(Vg.out _ cu.out).mono ?_);rintro r w1 ⟨rfl,aN⟩;have E1:=zq (cu.out.trans aN);have F1:=zq aN;clear q0 q1 q2 q3 q4 q5 q6 q7;obtain⟨⟨q0,q1,q2,q3,q4,q5,q6,q7⟩,_⟩:=(rq.out _ F1.out).eight;clear aN)
  | ((with_reducible refine(BR.out _ E1.out).mono ?_);rintro r w2 ⟨rfl,bM⟩;have E2:=zq (E1.out.trans bM);have F2:=zq (F1.out.trans bM);clear q0 q1 q2 q3 q4 q5 q6 q7;obtain⟨⟨q0,q1,q2,q3,q4,q5,q6,q7⟩,_⟩:=(rq.out _ F2.out).eight;clear bM)
  | ((with_reducible refine(HOU.out _ E2.out).mono ?_);rintro r w3 ⟨v,rfl,hO,dV⟩;have HO:=zq hO;have E3:=zq (E2.out.trans dV);clear hO dV))
 go_ret3
 exact⟨v,rfl,HO.out.low E2.out.size,E3.out⟩
theorem azM(h:U:=by
 refine aF λa wq c=>⟨(aP rfl ah (c.new 3 21)),.pointer (some ⟨go,1,none⟩),?_,rfl⟩
 have bC:a.eval (.tmp 23)=.slice ↑go 3 3:=(c.new 5 23)
 exact aBB):U:=h
theorem az0(h:U:=by
 refine aF λa wq c=>⟨(aP rfl ah (c.new 3 21)),.pointer ↑go,?_,rfl⟩
 have bC:a.eval (.tmp 27)=.slice ↑go 3 3:=(c.new 9 27)
 exact aBy):U:=h
theorem aCw(h:U:=by refine bu λa w c=>⟨(ay rfl),_,run_move _ rfl w,(c.was 9 rfl)⟩):U:=h
theorem aaw(go gb:Nat)(r10 r21 r20:Int)(w:ak)(hO:Bx 3 go #[.int .i64 0,.int .i64 1,.int .i64 2] w)(h10:0<=r10)(h21:r21<0)(h20:0<=r20)(UY:∀w1,But [go] w w1->Calls ax 49 #[.int .i64 1,.int .i64 0,.pointer ↑gb] w1 λe w'=>e=.returned ↑r10/\Ev w1 w')(UZ:∀w1,But [go] w w1->Calls ax 49 #[.int .i64 2,.int .i64 1,.pointer ↑gb] w1 λe w'=>e=.returned ↑r21/\Ev w1 w')(U0:∀w1,But [go] w w1->Calls ax 49 #[.int .i64 2,.int .i64 0,.pointer ↑gb] w1 λe w'=>e=.returned ↑r20/\Ev w1 w'):
  Calls ax 127 #[.slice ↑go 3 3,.int .i64 0,.int .i64 3,.func (.func 49) #[] #[.pointer ↑gb]] w λe w'=>e=.returned (.tuple #[])/\Bx 3 go #[.int .i64 0,.int .i64 2,.int .i64 1] w'/\But [go] w w':=by
 have ed:Tryz.prog.follows .mixedOrders=true:=ah;have ap4:decide (r10<0)=false:=by simp;omega
 have ap5:decide (r21<0)=true:=by simp;omega
 have ap6:decide (r20<0)=false:=by simp;omega
 have acP:=zq UY;have aiV:=zq UZ;have aiW:=zq U0;have HO:=zq hO;have HB:=zq (But.refl [go] w);clear UY UZ U0 hO h10 h21 h20;go_enter func127,ntmps127;go_wp2;refine ayw 4 ?_;rw[ayx];go_wp2;refine ayw 2 ?_;rw[ayx];go_wp2;obtain⟨⟨o0,o1,o2⟩,z0,z1,z2⟩:=(HO.out).three;have hgo:=(HO.out).lt;refine bV ed [λv _=>v=.int .i64 1,λv _=>v=.int .i64 0,λv _=>v=.bool true,λv _=>v=.bool true,λv _=>v=.func (.func 49) #[] #[.pointer ↑gb],λv _=>v=.slice ↑go 3 3,λv _=>v=.int .i64 1,λv _=>v=.pointer (some ⟨go,1,none⟩),λv _=>v=.int .i64 1,λv _=>v=.slice ↑go 3 3,λv _=>v=.int .i64 1,λv _=>v=.int .i64 0,λv _=>v=.pointer ↑go,λv _=>v=.int .i64 0,λv _=>v=↑r10,λv _=>v=.bool false,λv _=>v=.bool false]
  53 rfl ah ⟨az _,az _,az _,az _,az _,az _,az _,az _,az _,az _,az _,az _,az _,az _,az _,az _,az _,trivial⟩ ?_ ?_
 ·refine aC 0 ?_ (aC 1 ?_ (aC 2 ?_ (aC 3 ?_ (aC 4 ?_ (aC 5 ?_ (aC 6 ?_ (aC 7 ?_ (aC 8 ?_ (aC 9 ?_ (aC 10 ?_ (aC 11 ?_ (aC 12 ?_ (aC 13 ?_ (aC 14 ?_ (aC 15 ?_ (aC 16 ?_ (iT 17)))))))))))))))));exact aCv;exact aCu;exact aAd;exact aCx;exact aB5;exact aB6;exact aB7;exact azM;exact azO;exact aB6;exact aB7;exact azC;exact az0;exact az1;refine ig λa wq c=>⟨(aP rfl ah (c.new 3 21)),49,#[.int .i64 1,.int .i64 0,.pointer ↑gb],?_,?_⟩
  exact az4;refine(acP.out wq (HB.out.then (But.aW c.ev))).mono ?_;rintro e wp ⟨rfl,mX⟩;exact⟨_,rfl,mX,rfl⟩
  ·refine aF λa w c=>⟨(aP rfl ah (c.new 3 21)),.bool false,?_,rfl⟩
   have e32:a.eval (.tmp 32)=↑r10:=(c.new 14 32)
   have j_:a.eval (.const (.int .i64 0))=.int .i64 0:=rfl;generalize a.eval=ρ at e32 j_|-;simp[execOp,e32,j_,go_sem,ap4]
  exact aCf
 intro s w2 hE hold hnew;have f0:s 0=.slice ↑go 3 3:=hold 0;have f1:s 1=.int .i64 0:=hold 1;have f2:s 2=.int .i64 3:=hold 2;have f3:s 3=.func (.func 49) #[] #[.pointer ↑gb]:=hold 3;have f8:s 8=.int .i64 1:=hold 8;have f9:s 9=.int .i64 1:=hold 9;have f34:s 34=.bool false:=hnew 16 34;change Exit.then _ _ .normal ⟨_,_⟩ _;simp only[List.range,List.range.loop,List.map];simp only[f0,f1,f2,f3,f8,f9,f34];clear hold hnew;have HB:=zq (HB.out.then (But.aW hE));have HO:=zq (HO.out.ev hE);clear hE o0 o1 o2 z0 z1 z2 hgo;go_wp2;rw[ayx];go_wp2;refine ayw 3 ?_;rw[ayx];go_wp2;obtain⟨⟨o0,o1,o2⟩,z0,z1,z2⟩:=(HO.out).three;have hgo:=(HO.out).lt;refine bV ed [λv _=>v=.int .i64 2,λv _=>v=.int .i64 0,λv _=>v=.bool true,λv _=>v=.bool true,λv _=>v=.func (.func 49) #[] #[.pointer ↑gb],λv _=>v=.slice ↑go 3 3,λv _=>v=.int .i64 2,λv _=>v=.pointer (some ⟨go,2,none⟩),λv _=>v=.int .i64 2,λv _=>v=.slice ↑go 3 3,λv _=>v=.int .i64 2,λv _=>v=.int .i64 1,λv _=>v=.pointer (some ⟨go,1,none⟩),λv _=>v=.int .i64 1,λv _=>v=↑r21,λv _=>v=.bool true,λv _=>v=.bool true]
  53 rfl ah ⟨az _,az _,az _,az _,az _,az _,az _,az _,az _,az _,az _,az _,az _,az _,az _,az _,az _,trivial⟩ ?_ ?_
 ·refine aC 0 ?_ (aC 1 ?_ (aC 2 ?_ (aC 3 ?_ (aC 4 ?_ (aC 5 ?_ (aC 6 ?_ (aC 7 ?_ (aC 8 ?_ (aC 9 ?_ (aC 10 ?_ (aC 11 ?_ (aC 12 ?_ (aC 13 ?_ (aC 14 ?_ (aC 15 ?_ (aC 16 ?_ (iT 17)))))))))))))))));exact aCv;exact aCu;refine aF λa w c=>⟨(ay rfl),.bool true,?_,rfl⟩
  have e18:a.eval (.tmp 18)=.int .i64 2:=(c.new 0 18)
  exact aBk;exact aCx;exact aB5;exact aB6;exact aB7
  ·refine aF λa wq c=>⟨(aP rfl ah (c.new 3 21)),.pointer (some ⟨go,2,none⟩),?_,rfl⟩
   have bC:a.eval (.tmp 23)=.slice ↑go 3 3:=(c.new 5 23)
   have iO:a.eval (.tmp 24)=.int .i64 2:=(c.new 6 24)
   generalize a.eval=ρ at bC iO|-;simp[execOp,bC,iO,go_sem]
  ·refine aF λa w c=>⟨(aP rfl ah (c.new 3 21)),.int .i64 2,?_,rfl⟩
   have e25:a.eval (.tmp 25)=.pointer (some ⟨go,2,none⟩):=(c.new 7 25)
   have hc:=(c.ev.cell (p:=⟨go,2,none⟩) hgo).trans o2;generalize a.eval=ρ at e25|-;simp[execOp,e25,hc,go_sem]
  exact aB6;exact aB7
  ·refine aF λa w c=>⟨(aP rfl ah (c.new 3 21)),.int .i64 1,?_,rfl⟩
   have e28:a.eval (.tmp 28)=.int .i64 2:=(c.new 10 28)
   have j_:a.eval (.const (.int .i64 1))=.int .i64 1:=rfl;generalize a.eval=ρ at e28 j_|-;simp[execOp,e28,j_,go_sem,show IntKind.i64.wrap 1=1 from rfl]
  ·refine aF λa wq c=>⟨(aP rfl ah (c.new 3 21)),.pointer (some ⟨go,1,none⟩),?_,rfl⟩
   have bC:a.eval (.tmp 27)=.slice ↑go 3 3:=(c.new 9 27)
   have iO:a.eval (.tmp 29)=.int .i64 1:=(c.new 11 29)
   generalize a.eval=ρ at bC iO|-;simp[execOp,bC,iO,go_sem]
  ·refine aF λa w c=>⟨(aP rfl ah (c.new 3 21)),.int .i64 1,?_,rfl⟩
   have e30:a.eval (.tmp 30)=.pointer (some ⟨go,1,none⟩):=(c.new 12 30)
   have hc:=(c.ev.cell (p:=⟨go,1,none⟩) hgo).trans o1;generalize a.eval=ρ at e30|-;simp[execOp,e30,hc,go_sem]
  refine ig λa wq c=>⟨(aP rfl ah (c.new 3 21)),49,#[.int .i64 2,.int .i64 1,.pointer ↑gb],?_,?_⟩
  have bC:a.eval (.tmp 22)=.func (.func 49) #[] #[.pointer ↑gb]:=(c.new 4 22)
  have iO:a.eval (.tmp 26)=.int .i64 2:=(c.new 8 26)
  have ZB:a.eval (.tmp 31)=.int .i64 1:=(c.new 13 31)
  rw[BJ 49 #[.pointer ↑gb] _ _ _ rfl ah bC];simp[iO,ZB];refine(aiV.out wq (HB.out.then (But.aW c.ev))).mono ?_;rintro e wp ⟨rfl,mX⟩;exact⟨_,rfl,mX,rfl⟩
  ·refine aF λa w c=>⟨(aP rfl ah (c.new 3 21)),.bool true,?_,rfl⟩
   have e32:a.eval (.tmp 32)=↑r21:=(c.new 14 32)
   have j_:a.eval (.const (.int .i64 0))=.int .i64 0:=rfl;generalize a.eval=ρ at e32 j_|-;simp[execOp,e32,j_,go_sem,ap5]
  exact aCf
 intro s w4 hE hold hnew;have f0:s 0=.slice ↑go 3 3:=hold 0;have f1:s 1=.int .i64 0:=hold 1;have f2:s 2=.int .i64 3:=hold 2;have f3:s 3=.func (.func 49) #[] #[.pointer ↑gb]:=hold 3;have f8:s 8=.int .i64 2:=hold 8;have f9:s 9=.int .i64 2:=hold 9;have f34:s 34=.bool true:=hnew 16 34;change Exit.then _ _ .normal ⟨_,_⟩ _;simp only[List.range,List.range.loop,List.map];simp only[f0,f1,f2,f3,f8,f9,f34];clear hold hnew;have HB:=zq (HB.out.then (But.aW hE));have HO:=zq (HO.out.ev hE);clear hE o0 o1 o2 z0 z1 z2 hgo;go_wp2;refine jE ed (λu=>But [go] w4 u) (λ_ u u'=>But [go] u u') [15,17] (λp u=>match p with|0=>Bx 3 go #[.int .i64 0,.int .i64 1,.int .i64 2] u|1=>Bx 3 go #[.int .i64 0,.int .i64 1,.int .i64 1] u|_+2=>Bx 3 go #[.int .i64 0,.int .i64 2,.int .i64 1] u) [] [[],[]] 15 [λv _=>v=.slice ↑go 3 3,λv _=>v=.int .i64 2,λv _=>v=.slice ↑go 3 3,λv _=>v=.int .i64 2,λv _=>v=.int .i64 1,λv _=>v=.slice ↑go 3 3,λv _=>v=.int .i64 2,λv _=>v=.int .i64 1,λv _=>v=.pointer (some ⟨go,1,none⟩),λv _=>v=.int .i64 1,λv _=>v=.slice ↑go 3 3,λv _=>v=.int .i64 2,λv _=>v=.pointer (some ⟨go,2,none⟩),λv _=>v=.int .i64 2,λv _=>v=.pointer (some ⟨go,2,none⟩),λ_ _=>True,λv _=>v=.pointer (some ⟨go,1,none⟩),λ_ _=>True]
  53 2 rfl ah ⟨az _,az _,az _,az _,az _,az _,az _,az _,az _,az _,az _,az _,az _,az _,az _,eH,az _,eH,trivial⟩ ⟨aZ,aZ,aZ,aZ,aZ,aZ,aZ,aZ,aZ,aZ,aZ,aZ,aZ,aZ,aZ,aZ,aZ,aZ,trivial⟩ ah rfl ah (λp w w' hE h=>match p,h with|0,h=>Bx.ev h hE|1,h=>Bx.ev h hE|_+2,h=>Bx.ev h hE) (λw w' hE h=>h.then (But.aW hE)) (But.refl _ _) (HO.out) ah (λ_ _ u=>Bx 3 go #[.int .i64 0,.int .i64 1,.int .i64 2] u) [9,13] ah (λ_ _ _ _ _ _ _ _ hE h=>Bx.ev h hE) (λ_ _=>HO.out) ?_ ?_ ?_ ?_
 ·refine aJ 0 ?_ (aJ 1 ?_ (aJ 2 ?_ (aJ 3 ?_ (aJ 4 ?_ (aJ 5 ?_ (aJ 6 ?_ (aJ 7 ?_ (aJ 8 ?_ (cO 9 ai (aJ 10 ?_ (aJ 11 ?_ (aJ 12 ?_ (cO 13 ai (aJ 14 ?_ (cO 15 ai (aJ 16 ?_ (cO 17 ai (oD 18))))))))))))))))));exact aCs;exact aCw;exact aCs;exact aCw
  ·refine bu λa w c=>⟨(ay rfl),.int .i64 1,?_,rfl⟩
   have e40:a.eval (.tmp 40)=.int .i64 2:=(c.new 3 40)
   have j_:a.eval (.const (.int .i64 1))=.int .i64 1:=rfl;generalize a.eval=ρ at e40 j_|-;simp[execOp,e40,j_,go_sem,show IntKind.i64.wrap 1=1 from rfl]
  exact aCs;exact aCw
  ·refine bu λa w c=>⟨(ay rfl),.int .i64 1,?_,rfl⟩
   have e43:a.eval (.tmp 43)=.int .i64 2:=(c.new 6 43)
   have j_:a.eval (.const (.int .i64 1))=.int .i64 1:=rfl;generalize a.eval=ρ at e43 j_|-;simp[execOp,e43,j_,go_sem,show IntKind.i64.wrap 1=1 from rfl]
  ·refine bu λa wq c=>⟨(ay rfl),.pointer (some ⟨go,1,none⟩),?_,rfl⟩
   have bC:a.eval (.tmp 42)=.slice ↑go 3 3:=(c.new 5 42)
   have iO:a.eval (.tmp 44)=.int .i64 1:=(c.new 7 44)
   generalize a.eval=ρ at bC iO|-;simp[execOp,bC,iO,go_sem]
  exact aCs;exact aCw
  ·refine bu λa wq c=>⟨(ay rfl),.pointer (some ⟨go,2,none⟩),?_,rfl⟩
   have bC:a.eval (.tmp 47)=.slice ↑go 3 3:=(c.new 10 47)
   have iO:a.eval (.tmp 48)=.int .i64 2:=(c.new 11 48)
   generalize a.eval=ρ at bC iO|-;simp[execOp,bC,iO,go_sem]
  ·refine bu λa wq c=>⟨(ay rfl),.pointer (some ⟨go,2,none⟩),?_,rfl⟩
   have bC:a.eval (.tmp 37)=.slice ↑go 3 3:=(c.new 0 37)
   have iO:a.eval (.tmp 38)=.int .i64 2:=(c.new 1 38)
   generalize a.eval=ρ at bC iO|-;simp[execOp,bC,iO,go_sem]
  refine bu λa wq c=>⟨(ay rfl),.pointer (some ⟨go,1,none⟩),?_,rfl⟩
  have bC:a.eval (.tmp 39)=.slice ↑go 3 3:=(c.new 2 39)
  have iO:a.eval (.tmp 41)=.int .i64 1:=(c.new 4 41)
  generalize a.eval=ρ at bC iO|-;simp[execOp,bC,iO,go_sem]
 ·refine iW rfl ?_ (iW rfl ?_ BF)
  ·refine yu λa wq L c hs hp hu hg=>⟨ay rfl,.int .i64 1,wq,?_,Ev.refl _,c.inv,rfl,λ_ _ _=>hg⟩
   have bC:a.eval (.tmp 45)=.pointer (some ⟨go,1,none⟩):=(c.new 8 45)
   obtain⟨⟨o0,o1,o2⟩,z0,z1,z2⟩:=Bx.three hg;have hgo:=hg.lt;generalize a.eval=ρ at bC|-;simp[execOp,bC,go_sem,o1]
  refine yu λa wq L c hs hp hu hg=>⟨ay rfl,.int .i64 2,wq,?_,Ev.refl _,c.inv,rfl,λ_ _ _=>hg⟩
  have bC:a.eval (.tmp 49)=.pointer (some ⟨go,2,none⟩):=(c.new 12 49)
  obtain⟨⟨o0,o1,o2⟩,z0,z1,z2⟩:=Bx.three hg;have hgo:=hg.lt;generalize a.eval=ρ at bC|-;simp[execOp,bC,go_sem,o2]
 ·refine fQ 0 rfl ?_ (fQ 1 rfl ?_ (pq 2))
  ·refine OT rfl λa wq c hst Ny=>⟨ay rfl,wq.setCell ⟨go,2,none⟩ (.int .i64 1),?_,But.setCell _ _ aj,(show But _ _ _ from c.inv).then (But.setCell ⟨go,2,none⟩ _ aj),?_,trivial⟩
   ·have bC:a.eval (.tmp 51)=.pointer (some ⟨go,2,none⟩):=(c.new 14 51)
    have iO:a.eval (.tmp 46)=.int .i64 1:=(c.new 9 46)
    have hst:Bx 3 go #[.int .i64 0,.int .i64 1,.int .i64 2] wq:=hst;obtain⟨⟨o0,o1,o2⟩,z0,z1,z2⟩:=hst.three;have hgo:=hst.lt;generalize a.eval=ρ at bC iO|-;simp[execOp,bC,iO,go_sem,o2,z2]
   have:=Bx.set (show Bx 3 go #[.int .i64 0,.int .i64 1,.int .i64 2] wq from hst) 2 (.int .i64 1);simpa using this
  refine OT rfl λa wq c hst Ny=>⟨ay rfl,wq.setCell ⟨go,1,none⟩ (.int .i64 2),?_,But.setCell _ _ aj,(show But _ _ _ from c.inv).then (But.setCell ⟨go,1,none⟩ _ aj),?_,trivial⟩
  ·have bC:a.eval (.tmp 52)=.pointer (some ⟨go,1,none⟩):=(c.new 16 52)
   have iO:a.eval (.tmp 50)=.int .i64 2:=(c.new 13 50)
   have hst:Bx 3 go #[.int .i64 0,.int .i64 1,.int .i64 1] wq:=hst;obtain⟨⟨o0,o1,o2⟩,z0,z1,z2⟩:=hst.three;have hgo:=hst.lt;generalize a.eval=ρ at bC iO|-;simp[execOp,bC,iO,go_sem,o1,z1]
  have:=Bx.set (show Bx 3 go #[.int .i64 0,.int .i64 1,.int .i64 1] wq from hst) 1 (.int .i64 2);simpa using this
 intro sx w5 hI hold hnew hst;have f0:sx 0=.slice ↑go 3 3:=hold 0;have f1:sx 1=.int .i64 0:=hold 1;have f2:sx 2=.int .i64 3:=hold 2;have f3:sx 3=.func (.func 49) #[] #[.pointer ↑gb]:=hold 3;have f8:sx 8=.int .i64 2:=hold 8;have f9:sx 9=.int .i64 2:=hold 9;have f52:sx 52=.pointer (some ⟨go,1,none⟩):=hnew 16 52;change Exit.inBlock _ _ .normal ⟨_,_⟩ _;simp only[List.range,List.range.loop,List.map];simp only[f0,f1,f2,f3,f8,f9,f52];clear hold hnew;have HB:=zq (HB.out.then hI);have HO:=zq (show Bx 3 go #[.int .i64 0,.int .i64 2,.int .i64 1] w5 from hst);clear hI hst;go_wp2;rw[ayx];go_wp2;obtain⟨⟨o0,o1,o2⟩,z0,z1,z2⟩:=(HO.out).three;have hgo:=(HO.out).lt;refine bV ed [λv _=>v=.int .i64 1,λv _=>v=.int .i64 0,λv _=>v=.bool true,λv _=>v=.bool true,λv _=>v=.func (.func 49) #[] #[.pointer ↑gb],λv _=>v=.slice ↑go 3 3,λv _=>v=.int .i64 1,λv _=>v=.pointer (some ⟨go,1,none⟩),λv _=>v=.int .i64 2,λv _=>v=.slice ↑go 3 3,λv _=>v=.int .i64 1,λv _=>v=.int .i64 0,λv _=>v=.pointer ↑go,λv _=>v=.int .i64 0,λv _=>v=↑r20,λv _=>v=.bool false,λv _=>v=.bool false]
  53 rfl ah ⟨az _,az _,az _,az _,az _,az _,az _,az _,az _,az _,az _,az _,az _,az _,az _,az _,az _,trivial⟩ ?_ ?_
 ·refine aC 0 ?_ (aC 1 ?_ (aC 2 ?_ (aC 3 ?_ (aC 4 ?_ (aC 5 ?_ (aC 6 ?_ (aC 7 ?_ (aC 8 ?_ (aC 9 ?_ (aC 10 ?_ (aC 11 ?_ (aC 12 ?_ (aC 13 ?_ (aC 14 ?_ (aC 15 ?_ (aC 16 ?_ (iT 17)))))))))))))))));exact aCv;exact aCu;exact aAd;exact aCx;exact aB5;exact aB6;exact aB7;exact azM;refine aF λa w c=>⟨(aP rfl ah (c.new 3 21)),.int .i64 2,?_,rfl⟩
  exact aAt;exact aB6;exact aB7;exact azC;exact az0;exact az1;refine ig λa wq c=>⟨(aP rfl ah (c.new 3 21)),49,#[.int .i64 2,.int .i64 0,.pointer ↑gb],?_,?_⟩
  have bC:a.eval (.tmp 22)=.func (.func 49) #[] #[.pointer ↑gb]:=(c.new 4 22)
  have iO:a.eval (.tmp 26)=.int .i64 2:=(c.new 8 26)
  exact aBC;refine(aiW.out wq (HB.out.then (But.aW c.ev))).mono ?_;rintro e wp ⟨rfl,mX⟩;exact⟨_,rfl,mX,rfl⟩
  ·refine aF λa w c=>⟨(aP rfl ah (c.new 3 21)),.bool false,?_,rfl⟩
   have e32:a.eval (.tmp 32)=↑r20:=(c.new 14 32)
   have j_:a.eval (.const (.int .i64 0))=.int .i64 0:=rfl;generalize a.eval=ρ at e32 j_|-;simp[execOp,e32,j_,go_sem,ap6]
  exact aCf
 intro s w6 hE hold hnew;have f0:s 0=.slice ↑go 3 3:=hold 0;have f1:s 1=.int .i64 0:=hold 1;have f2:s 2=.int .i64 3:=hold 2;have f3:s 3=.func (.func 49) #[] #[.pointer ↑gb]:=hold 3;have f8:s 8=.int .i64 2:=hold 8;have f9:s 9=.int .i64 1:=hold 9;have f34:s 34=.bool false:=hnew 16 34;change Exit.then _ _ .normal ⟨_,_⟩ _;simp only[List.range,List.range.loop,List.map];simp only[f0,f1,f2,f3,f8,f9,f34];clear hold hnew;have HB:=zq (HB.out.then (But.aW hE));have HO:=zq (HO.out.ev hE);clear hE o0 o1 o2 z0 z1 z2 hgo;go_wp2;rw[ayx];go_wp2;go_end0;exact⟨rfl,HO.out,HB.out⟩
theorem aaz(go gb:Nat)(lim:Int)(r10 r21 r20:Int)(w:ak)(hO:Bx 3 go #[.int .i64 0,.int .i64 1,.int .i64 2] w)(h10:0<=r10)(h21:r21<0)(h20:0<=r20)(UY:∀w1,But [go] w w1->Calls ax 49 #[.int .i64 1,.int .i64 0,.pointer ↑gb] w1 λe w'=>e=.returned ↑r10/\Ev w1 w')(UZ:∀w1,But [go] w w1->Calls ax 49 #[.int .i64 2,.int .i64 1,.pointer ↑gb] w1 λe w'=>e=.returned ↑r21/\Ev w1 w')(U0:∀w1,But [go] w w1->Calls ax 49 #[.int .i64 2,.int .i64 0,.pointer ↑gb] w1 λe w'=>e=.returned ↑r20/\Ev w1 w'):
  Calls ax 93 #[.slice ↑go 3 3,.int .i64 0,.int .i64 3,↑lim,.func (.func 49) #[] #[.pointer ↑gb]] w λe w'=>e=.returned (.tuple #[])/\Bx 3 go #[.int .i64 0,.int .i64 2,.int .i64 1] w'/\But [go] w w':=by
 have HI:=zq (aaw go gb r10 r21 r20 w hO h10 h21 h20 UY UZ U0);clear hO h10 h21 h20 UY UZ U0;go_enter func93,ntmps93;go_wp2;refine ayw 1 ?_;rw[ayx]
 go_wp2_with ((with_reducible refine(HI.out).mono ?_);rintro e w1 ⟨rfl,hB1,aN⟩)
 (try simp only[Exit.inBlock,Exit.then]);refine ayr (results_none rfl _ _ _) rfl ?_;exact⟨rfl,hB1,aN⟩
theorem Xz(go gb:Nat)(r10 r21 r20:Int)(w:ak)(hO:Bx 3 go #[.int .i64 0,.int .i64 1,.int .i64 2] w)(h10:0<=r10)(h21:r21<0)(h20:0<=r20)(UY:∀w1,But [go] w w1->Calls ax 49 #[.int .i64 1,.int .i64 0,.pointer ↑gb] w1 λe w'=>e=.returned ↑r10/\Ev w1 w')(UZ:∀w1,But [go] w w1->Calls ax 49 #[.int .i64 2,.int .i64 1,.pointer ↑gb] w1 λe w'=>e=.returned ↑r21/\Ev w1 w')(U0:∀w1,But [go] w w1->Calls ax 49 #[.int .i64 2,.int .i64 0,.pointer ↑gb] w1 λe w'=>e=.returned ↑r20/\Ev w1 w'):
  Calls ax 48 #[.slice ↑go 3 3,.func (.func 49) #[] #[.pointer ↑gb]] w λe w'=>e=.returned (.tuple #[])/\Bx 3 go #[.int .i64 0,.int .i64 2,.int .i64 1] w'/\But [go] w w':=by
 have HP:=zq (λlim=>aaz go gb lim r10 r21 r20 w hO h10 h21 h20 UY UZ U0);have HL:Hid (∀w1,Calls ax 94 #[.int .u64 3] w1 λe w'=>∃k:Int,e=.returned ↑k/\w'=w1):=zq λw1=>(EU 3 w1 ae).mono λe w' h=>⟨_,h.1,h.2⟩
 clear hO h10 h21 h20 UY UZ U0;go_enter func48,ntmps48
 go_wp2_with (first
  | ((with_reducible refine(HL.out _).mono ?_);rintro e w1 ⟨k,rfl,rfl⟩)
  | ((with_reducible refine(HP.out _).mono ?_);rintro e w1 ⟨rfl,hB1,aN⟩))
 go_end0;exact⟨rfl,hB1,aN⟩
theorem aiX(u:ak):(Instr.makeSlice 88 (.int .i64 3) (.int .i64 3)).run ax u=.ok (.slice ↑u 3 3) (u.alloc (.cells #[.int .i64 0,.int .i64 0,.int .i64 0] 3)):=by obtain⟨i0,hi,hz0,hz1,hz2⟩:=info_parts Tryz.EX;have h:=run_make (P:=ax) u 88 3 i0 _ underlying88 hi hz0 .i64 .i64 3 3 ae (Int.le_refl _) (by rw[hz2];omega) ae;rw[hz1,show madeCells (Value.int .i64 0).cells (Int.toNat 3*1)=#[.int .i64 0,.int .i64 0,.int .i64 0] by kernel_rfl]at h;exact h
theorem aaA(bd jJ:Nat)(d0 d1 d2:DM)(w:ak)(h:pV w ↑bd 3 jJ [d0,d1,d2])(U1:(d2.name==d0.name)=true)(pG:(d1.name==d2.name)=false)(h10:0<=NW d1 d0 1 0)(h21:NW d2 d1 2 1<0)(h20:0<=NW d2 d0 2 0):
  Calls ax 25 #[.slice ↑bd 3 jJ] w λe w'=>e=.returned (.int .i64 2)/\Ev w w':=by
 have ed:Tryz.prog.follows .mixedOrders=true:=ah;have hmf:∀(fn:Fn) (first cap:Array au) (w:ak),(Instr.makeFunc fn first cap).run ax w=.ok (.func fn first cap) w:=λ_ _ _ _=>rfl;have hcp:=h.sl.le;have hcm:=h.sl.max;obtain⟨w0,hw0,aV,QQ,hs0⟩:=Yo w (.slice ↑bd 3 jJ);have HB:=zq QQ;have hl0:w0.cell? ⟨↑w,0,none⟩=some (.slice ↑bd 3 jJ):=QQ.cell 0;have acP:=zq (λw1 (hE:Ev w0 w1)=>Jk w.heap.size bd 0 3 jJ [d0,d1,d2] 1 0 d1 d0 w1 (QQ.ev hE) (h.ev (aV.trans hE)) rfl rfl);have aiV:=zq (λw1 (hE:Ev w0 w1)=>Jk w.heap.size bd 0 3 jJ [d0,d1,d2] 2 1 d2 d1 w1 (QQ.ev hE) (h.ev (aV.trans hE)) rfl rfl);have aiW:=zq (λw1 (hE:Ev w0 w1)=>Jk w.heap.size bd 0 3 jJ [d0,d1,d2] 2 0 d2 d0 w1 (QQ.ev hE) (h.ev (aV.trans hE)) rfl rfl);have cu:=zq aV;have hB1:=Bx.new 3 #[.int .i64 0,.int .i64 0,.int .i64 0] w0;obtain⟨⟨o0,o1,o2⟩,z0,z1,z2⟩:=hB1.three;have hmk:=aiX w0;have HN:Hid (∀w1,Ev w0 w1->bd<w1.heap.size/\w1.cell? ⟨bd,0,none⟩=some ↑d0.name/\w1.cell? ⟨bd,2,none⟩=some ↑d1.name/\w1.cell? ⟨bd,4,none⟩=some ↑d2.name):=zq λw1 hE=>by
  have h1:=h.ev (aV.trans hE);obtain⟨b,o,e,hbl,c0,_⟩:=h1.cell (i:=0) (d:=d0) rfl;obtain⟨b',o',e',_,c1,_⟩:=h1.cell (i:=1) (d:=d1) rfl;obtain⟨b2,o2,e2,_,c2,_⟩:=h1.cell (i:=2) (d:=d2) rfl;injection e with e
  injection e with e1 e0 _
  injection e' with e'
  injection e' with e3 e4 _
  injection e2 with e2
  injection e2 with e5 e6 _
  subst e1 e0 e3 e4 e5 e6;exact⟨hbl,c0,c1,c2⟩
 clear QQ h aV hB1;go_enter func25,ntmps25;go_wp2;refine ayw 4 ?_;rw[ayx];go_wp2;rw[ayx];go_wp2;rw[ayx];go_wp2;rw[ayx];go_upto_region 7 with fail
 obtain⟨w5,FD⟩:∃w5,w5=w0.alloc (.cells #[.int .i64 0,.int .i64 1,.int .i64 2] 3):=⟨_,rfl⟩
 rw[<-FD];have MX:=Bx.new 3 #[.int .i64 0,.int .i64 1,.int .i64 2] w0;rw[<-FD,hs0]at MX;have kH:Ev w0 w5:=by rw[FD];exact Ev.alloc _ _
 have zN:=zq kH;have hgo:w0.heap.size<=w.heap.size+1:=ae;have HS:=zq (Xz (w.heap.size+1) w.heap.size _ _ _ w5 MX h10 h21 h20 (λw1 hb=>acP.out w1 (kH.box hb hgo)) (λw1 hb=>aiV.out w1 (kH.box hb hgo)) (λw1 hb=>aiW.out w1 (kH.box hb hgo)));have MZ:=zq MX;have HGO:=zq hgo;clear FD MX kH o0 o1 o2 z0 z1 z2 hmk hw0 hgo h10 h21 h20;have hg5:=MZ.out.lt;have l5:=(zN.out.cell (p:=⟨↑w,0,none⟩) (show w.heap.size<w0.heap.size by omega)).trans hl0;clear hl0
 go_wp2_with ((with_reducible refine(HS.out).mono ?_);rintro e w6 ⟨rfl,wG,hb6⟩;have lS:=zN.out.box hb6 HGO.out;have HE6:=zq lS;have qF:=zq wG;have hl6:w6.cell? ⟨↑w,0,none⟩=some (.slice ↑bd 3 jJ):=(HB.out.ev lS).cell 0;obtain⟨⟨o0,o1,o2⟩,_⟩:=wG.three;obtain⟨hbl,n0,n1,n2⟩:=HN.out w6 lS;clear lS wG hb6 l5)
 refine ayw 3 ?_;rw[ayx];go_upto_region 12 with fail
 go_quiet (fail)
 obtain⟨w7,hw7⟩:∃w7,w7=w6.drewN nq:=⟨_,rfl⟩
 have E67:=zq (show Ev w6 w7 from hw7▸Ev.drewN _ _);rw[<-hw7];clear hw7 hl6 o0 o1 o2 hbl n0 n1 n2;have HE7:=zq (HE6.out.trans E67.out);have hl7:w7.cell? ⟨↑w,0,none⟩=some (.slice ↑bd 3 jJ):=(HB.out.ev HE7.out).cell 0;obtain⟨⟨o0,o1,o2⟩,_⟩:=(qF.out.ev E67.out).three;obtain⟨hbl,n0,n1,n2⟩:=HN.out w7 HE7.out;go_wp2;rw[ayx];go_upto_region 12 with fail
 go_quiet (fail)
 go_wp2;rw[ayx];go_wp2;go_ret;exact⟨rfl,(cu.out.trans HE7.out).trans (Ev.drewN w7 _)⟩
theorem aiY(a b c d:Option Addr)(x y:Nat)(l k:List C):0<=NW ⟨[117],a,x,l⟩ ⟨[116],b,y,k⟩ 1 0:=by show 0<=or2 (ER ⟨#[117]⟩ ⟨#[116]⟩) (ET ((1:Nat):Int) ((0:Nat):Int));decide+kernel
theorem aiZ(a b c d:Option Addr)(x y:Nat)(l k:List C):NW ⟨[116],a,x,l⟩ ⟨[117],b,y,k⟩ 2 1<0:=by show or2 (ER ⟨#[116]⟩ ⟨#[117]⟩) (ET ((2:Nat):Int) ((1:Nat):Int))<0;decide+kernel
theorem ai0(a b c d:Option Addr)(x y:Nat)(l k:List C):0<=NW ⟨[116],a,x,l⟩ ⟨[116],b,y,k⟩ 2 0:=by show 0<=or2 (ER ⟨#[116]⟩ ⟨#[116]⟩) (ET ((2:Nat):Int) ((0:Nat):Int));decide+kernel
end Go.Proofs.YtpbfokkocaemlaaGreatDoor
