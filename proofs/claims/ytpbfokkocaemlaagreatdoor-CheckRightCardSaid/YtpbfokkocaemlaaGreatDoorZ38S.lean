import Derived.Test.YtpbfokkocaemlaaGreatDoorZ37S
import Derived.Test.YtpbfokkocaemlaaGreatDoorZ36S
set_option linter.unusedVariables false
set_option maxRecDepth 100000
set_option maxHeartbeats 64000000
namespace Go.Proofs
open Go.Shelf
def Tryz.bitsLen_ren : Go.Shelf.Ren := ⟨fun | 125 => 94 | 128 => 135 | 129 => 136 | n => n, fun | 46 => 142 | 3 => 3 | 51 => 190 | 53 => 192 | 4 => 4 | 5 => 5 | 9 => 9 | n => n, fun | n => n⟩
theorem Tryz.bitsLen : Go.Proofs.Lays.n125 Tryz.prog Tryz.bitsLen_ren := {
  mixed := by kernel_rfl
  f125 := Tryz.func94.trans (congrArg some (by kernel_rfl))
  f128 := Tryz.func135.trans (congrArg some (by kernel_rfl))
  f129 := Tryz.func136.trans (congrArg some (by kernel_rfl))
  t3 := Tryz.underlying3
  a3 := Tryz.isAgg3
  z3 := Tryz.sizeOf3
  v3 := Tryz.zeroValue3
  t4 := Tryz.underlying4
  a4 := Tryz.isAgg4
  z4 := Tryz.sizeOf4
  v4 := Tryz.zeroValue4
  t5 := Tryz.underlying5
  a5 := Tryz.isAgg5
  z5 := Tryz.sizeOf5
  v5 := Tryz.zeroValue5
  t9 := Tryz.underlying9
  a9 := Tryz.isAgg9
  z9 := Tryz.sizeOf9
  v9 := Tryz.zeroValue9
  t46 := Tryz.underlying142
  a46 := Tryz.isAgg142
  z46 := Tryz.sizeOf142
  v46 := Tryz.zeroValue142
  t51 := Tryz.underlying190
  a51 := Tryz.isAgg190
  z51 := Tryz.sizeOf190
  v51 := Tryz.zeroValue190
  t53 := Tryz.underlying192
  a53 := Tryz.isAgg192
  z53 := Tryz.sizeOf192
  v53 := Tryz.zeroValue192 }
end Go.Proofs
namespace Go.Proofs.YtpbfokkocaemlaaGreatDoor
open Go.RowKit
open Go.Lib renaming hid → zq

theorem aao (n : Nat) (w : World) (h : n ≤ 1000) : Calls Tryz.prog 94 #[.int .u64 (n : Int)] w fun e w' => e = .returned (.int .i64 (Lib.bitLen n : Nat)) ∧ w' = w := by
  have := Go.Proofs.Any.bits_Len Tryz.bitsLen (n : Int) w (by omega) (by omega)
  exact this
theorem acv (go gb : Nat) (r lim : Int) (w : World) (hO : Bx 3 go #[.int .i64 0, .int .i64 1] w) (hr0 : 0 ≤ r) (hC : ∀ w1, Ev w w1 → Calls Tryz.prog 49 #[.int .i64 1, .int .i64 0, .pointer (some ⟨gb, 0, none⟩)] w1 fun e w' => e = .returned (.int .i64 r) ∧ Ev w1 w') :
    Calls Tryz.prog 93 #[.slice (some ⟨go, 0, none⟩) 2 2, .int .i64 0, .int .i64 2, .int .i64 lim, .func (.func 49) #[] #[.pointer (some ⟨gb, 0, none⟩)]] w fun e w' => e = .returned (.tuple #[]) ∧ Ev w w' := by
  have HI := zq (acu go gb r w hO hr0 hC)
  clear hO hC
  go_enter Tryz.func93, Tryz.ntmps93
  go_wp2
  refine wp_loop_rounds 1 ?_
  rw [rounds_succ]
  go_wp2_with ((with_reducible refine (HI.out).mono ?_); rintro e w1 ⟨rfl, aH⟩)
  (try simp only [Exit.inBlock, Exit.then])
  refine bodyPost_ret (results_none rfl _ _ _) rfl ?_
  exact ⟨rfl, aH⟩
theorem aap (go gb : Nat) (r : Int) (w : World) (hO : Bx 3 go #[.int .i64 0, .int .i64 1] w) (hr0 : 0 ≤ r) (hC : ∀ w1, Ev w w1 → Calls Tryz.prog 49 #[.int .i64 1, .int .i64 0, .pointer (some ⟨gb, 0, none⟩)] w1 fun e w' => e = .returned (.int .i64 r) ∧ Ev w1 w') :
    Calls Tryz.prog 48 #[.slice (some ⟨go, 0, none⟩) 2 2, .func (.func 49) #[] #[.pointer (some ⟨gb, 0, none⟩)]] w fun e w' => e = .returned (.tuple #[]) ∧ Ev w w' := by
  have HP := zq (fun lim => acv go gb r lim w hO hr0 hC)
  have HL : Hid (∀ w1, Calls Tryz.prog 94 #[.int .u64 2] w1 fun e w' => ∃ k : Int, e = .returned (.int .i64 k) ∧ w' = w1) := zq fun w1 => (aao 2 w1 (by omega)).mono fun e w' h => ⟨_, h.1, h.2⟩
  clear hO hC
  go_enter Tryz.func48, Tryz.ntmps48
  go_wp2_with (first
    | ((with_reducible refine (HL.out _).mono ?_); rintro e w1 ⟨k, rfl, rfl⟩)
    | ((with_reducible refine (HP.out _).mono ?_); rintro e w1 ⟨rfl, aH⟩))
  go_end0
  exact ⟨rfl, aH⟩
theorem ahT (w:World) (v:Value):∃w0,w.alloc (.cells #[v] 34)=w0∧Ev w w0∧Bx 34 w.heap.size #[v] w0∧w0.heap.size=w.heap.size+1:=⟨_,rfl,Ev.alloc _ _,Bx.new _ _ _,by simp⟩
theorem Tryz.aaq:(Tryz.prog.info? 3).map (fun i=>(i.zero,i.size,i.bytes))=some (some (.int .i64 0),1,8):=by kernel_rfl
theorem afc (u:World):(Instr.makeSlice 88 (.int .i64 2) (.int .i64 2)).run Tryz.prog u=.ok (.slice (some ⟨u.heap.size,0,none⟩) 2 2) (u.alloc (.cells #[.int .i64 0,.int .i64 0] 3)):=by obtain⟨i0,hi,hz0,hz1,hz2⟩:=info_parts Tryz.aaq;have h:=run_make (P:=Tryz.prog) u 88 3 i0 _ Tryz.underlying88 hi hz0 .i64 .i64 2 2 (by omega) (Int.le_refl _) (by rw[hz2];omega) (by omega);rw[hz1,show madeCells (Value.int .i64 0).cells (Int.toNat 2*1)=#[.int .i64 0,.int .i64 0] by kernel_rfl]at h;exact h
theorem acw (bd:Nat) (d0 d1:DM) (w:World) (h:Ja w (some ⟨bd,0,none⟩) 2 2 [d0,d1]) (hn:(d1.name==d0.name)=false) (hc:0≤acr d1 d0 1 0):
  Calls Tryz.prog 25 #[.slice (some ⟨bd,0,none⟩) 2 2] w fun e w'=>e=.returned (.int .i64 2)∧Ev w w':=by
 have fJ:Tryz.prog.follows .mixedOrders=true:=by kernel_rfl
 have hmf:∀(fn:Fn) (first cap:Array Value) (w:World),(Instr.makeFunc fn first cap).run Tryz.prog w=.ok (.func fn first cap) w:=fun _ _ _ _=>rfl;obtain⟨w0,hw0,aT,hBx,hs0⟩:=ahT w (.slice (some ⟨bd,0,none⟩) 2 2);have HB:=zq hBx;have hl0:w0.cell? ⟨w.heap.size,0,none⟩=some (.slice (some ⟨bd,0,none⟩) 2 2):=hBx.cell 0;have HC:=zq (fun w1 (hE:Ev w0 w1)=>acs w.heap.size bd 0 2 2 [d0,d1] 1 0 d1 d0 w1 (hBx.ev hE) (h.ev (aT.trans hE)) rfl rfl);have dH:=zq aT;have hB1:=Bx.new 3 #[.int .i64 0,.int .i64 0] w0;obtain⟨⟨o0,o1⟩,z0,z1⟩:=hB1.two;have hmk:=afc w0;have HN:Hid (∀w1,Ev w0 w1→bd<w1.heap.size∧w1.cell? ⟨bd,0,none⟩=some (.string ⟨d0.name.toArray⟩)∧w1.cell? ⟨bd,2,none⟩=some (.string ⟨d1.name.toArray⟩)):=zq fun w1 hE=>by
  have h1:=h.ev (aT.trans hE);obtain⟨b,o,e,hbl,c0,_⟩:=h1.cell (i:=0) (d:=d0) rfl;obtain⟨b',o',e',_,c1,_⟩:=h1.cell (i:=1) (d:=d1) rfl;injection e with e
  injection e with e1 e2 _
  injection e' with e'
  injection e' with e3 e4 _
  subst e1;subst e2;subst e3;subst e4;exact⟨hbl,c0,c1⟩
 clear hBx h aT hB1;go_enter Tryz.func25,Tryz.ntmps25;go_wp2;refine wp_loop_rounds 3 ?_;rw[rounds_succ];go_wp2;rw[rounds_succ];go_wp2;rw[rounds_succ];go_upto_region 7 with fail
 obtain⟨w5,QC⟩:∃w5,w5=w0.alloc (.cells #[.int .i64 0,.int .i64 1] 3):=⟨_,rfl⟩
 rw[←QC];have RI:=Bx.new 3 #[.int .i64 0,.int .i64 1] w0;rw[←QC,hs0]at RI;have Cm:Ev w0 w5:=by rw[QC];exact Ev.alloc _ _
 have Ht:=zq Cm;have HS:=zq (aap (w.heap.size+1) w.heap.size _ w5 RI hc fun w1 hE=>HC.out w1 (Cm.trans hE));have NF:=zq RI;clear QC RI Cm o0 o1 z0 z1 hmk hw0;have hg5:=NF.out.lt;have l5:=(Ht.out.cell (p:=⟨w.heap.size,0,none⟩) (show w.heap.size<w0.heap.size by omega)).trans hl0;clear hl0
 go_wp2_with ((with_reducible refine (HS.out).mono ?_);rintro e w6 ⟨rfl,lL⟩;have HE6:=zq (Ht.out.trans lL);have hl6:w6.cell? ⟨w.heap.size,0,none⟩=some (.slice (some ⟨bd,0,none⟩) 2 2):=(HB.out.ev (Ht.out.trans lL)).cell 0;obtain⟨⟨o0,o1⟩,_⟩:=(NF.out.ev lL).two;obtain⟨hbl,n0,n1⟩:=HN.out w6 (Ht.out.trans lL);clear lL l5)
 refine wp_loop_rounds 2 ?_;rw[rounds_succ];go_upto_region 12 with fail
 go_quiet (fail)
 go_wp2;rw[rounds_succ];go_wp2;go_ret;exact⟨rfl,(dH.out.trans HE6.out).trans (Ev.drewN w6 nq)⟩
def tuD (g:Nat):List DM:=[⟨[116],some ⟨g,0,none⟩,3,lZ⟩,⟨[117],some ⟨g+1,0,none⟩,2,rX⟩]
def EX:List Df:=[([116],lZ),([117],rX)]
theorem afd (g:Nat):(tuD g).map DM.df=EX:=rfl
def Md (v:Value) (w:World):Prop:=∃g,v=.slice (some ⟨g+2,0,none⟩) 2 2∧Ja w (some ⟨g+2,0,none⟩) 2 2 (tuD g)
theorem Md.mono:rF Md:=fun v w w' hE ⟨g,e,h⟩=>⟨g,e,h.ev hE⟩
theorem JX (w:World):Calls Tryz.prog 9 #[] w fun e w'=>∃v,e=.returned v∧Ev w w'∧Md v w':=by
 have hT:=Cs.made lZ 3 rfl (by decide) w _ rfl;have hU:=Cs.made rX 2 rfl (by decide) (w.alloc (.cells (lZ.flatMap eP).toArray 50)) _ rfl;have hD:=Sl.made (k:=2) (enc:=dc) (fun _=>rfl) (tuD w.heap.size) 2 rfl (by decide) ((w.alloc (.cells (lZ.flatMap eP).toArray 50)).alloc (.cells (rX.flatMap eP).toArray 50)) _ 42 rfl;have aH:=Ev.alloc w (.cells (lZ.flatMap eP).toArray 50);have bK:=Ev.alloc (w.alloc (.cells (lZ.flatMap eP).toArray 50)) (.cells (rX.flatMap eP).toArray 50);have iE:=Ev.alloc ((w.alloc (.cells (lZ.flatMap eP).toArray 50)).alloc (.cells (rX.flatMap eP).toArray 50)) (.cells ((tuD w.heap.size).flatMap dc).toArray 42);have HF:Md (.slice (some ⟨w.heap.size+2,0,none⟩) 2 2) (((w.alloc (.cells (lZ.flatMap eP).toArray 50)).alloc (.cells (rX.flatMap eP).toArray 50)).alloc (.cells ((tuD w.heap.size).flatMap dc).toArray 42)):=by refine⟨w.heap.size,rfl,⟨by simpa using hD,fun d hd=>?_⟩⟩;unfold tuD at hd;rcases atA.1 hd with rfl|hd;exact (hT.ev bK).ev iE;simp at hd;subst hd;have h1:=hU.ev iE;rw[show (w.alloc (.cells (lZ.flatMap eP).toArray 50)).heap.size=w.heap.size+1 by simp]at h1;exact h1
 have HF:=zq HF;have HE:=zq ((aH.trans bK).trans iE);clear hT hU hD aH bK iE;go_enter Tryz.func9,Tryz.ntmps9;go_wp2;go_ret;exact⟨_,rfl,HE.out,HF.out⟩
theorem alS:yx lZ=0:=by decide+kernel
theorem alT:yx rX=0:=by decide+kernel
theorem ahU:fM ⟨#[116]⟩=true:=by decide+kernel
theorem ahV:fM ⟨#[117]⟩=true:=by decide+kernel
theorem afe (g:Nat):0≤acr ⟨[117],some ⟨g+1,0,none⟩,2,rX⟩ ⟨[116],some ⟨g,0,none⟩,3,lZ⟩ 1 0:=by show 0≤or2 (JU ⟨#[117]⟩ ⟨#[116]⟩) (JV ((1:Nat):Int) ((0:Nat):Int));decide+kernel
theorem V7 (v:Value) (w:World) (h:Md v w):Calls Tryz.prog 13 #[v] w fun e w'=>e=.returned (.int .i64 0)∧Ev w w':=by
 obtain⟨g,rfl,hD⟩:=h;have HR:=zq (acw (g+2) _ _ w hD (by rfl) (afe g));have HN:Hid (∀w1,Ev w w1→g+2<w1.heap.size∧w1.cell? ⟨g+2,0,none⟩=some (.string ⟨#[116]⟩)∧w1.cell? ⟨g+2,1,none⟩=some (.slice (some ⟨g,0,none⟩) 3 3)∧w1.cell? ⟨g+2,2,none⟩=some (.string ⟨#[117]⟩)∧w1.cell? ⟨g+2,3,none⟩=some (.slice (some ⟨g+1,0,none⟩) 2 2)):=zq fun w1 hE=>by
  have h1:=hD.ev hE;obtain⟨b,o,e,hbl,c0,c1⟩:=h1.cell (i:=0) (d:=⟨[116],some ⟨g,0,none⟩,3,lZ⟩) rfl;obtain⟨b',o',e',_,c2,c3⟩:=h1.cell (i:=1) (d:=⟨[117],some ⟨g+1,0,none⟩,2,rX⟩) rfl;injection e with e
  injection e with e1 e2 _
  injection e' with e'
  injection e' with e3 e4 _
  subst e1;subst e2;subst e3;subst e4;exact⟨hbl,c0,c1,c2,c3⟩
 have HNT:=zq (fun w1=>wO ⟨#[116]⟩ w1);have HNU:=zq (fun w1=>wO ⟨#[117]⟩ w1);have HCT:Hid (∀w1,Ev w w1→Calls Tryz.prog 15 #[.slice (some ⟨g,0,none⟩) 3 3] w1 fun e w'=>e=.returned (.int .i64 (yx lZ))∧Ev w1 w'):=zq (fun w1 (hE:Ev w w1)=>yN w1 ((hD.cols ⟨[116],some ⟨g,0,none⟩,3,lZ⟩ (by simp[tuD])).ev hE));have HCU:Hid (∀w1,Ev w w1→Calls Tryz.prog 15 #[.slice (some ⟨g+1,0,none⟩) 2 2] w1 fun e w'=>e=.returned (.int .i64 (yx rX))∧Ev w1 w'):=zq (fun w1 (hE:Ev w w1)=>yN w1 ((hD.cols ⟨[117],some ⟨g+1,0,none⟩,2,rX⟩ (by simp[tuD])).ev hE));rw[ahU]at HNT;rw[ahV]at HNU;rw[alS]at HCT;rw[alT]at HCU;clear hD;go_enter Tryz.func13,Tryz.ntmps13
 go_wp2_with ((with_reducible refine (HR.out).mono ?_);rintro e w1 ⟨rfl,aH⟩;have nS:=zq aH;obtain⟨hbl,c0,c1,c2,c3⟩:=HN.out w1 aH;clear aH)
 refine wp_loop_rounds 3 ?_;rw[rounds_succ];have hX:=Bx.new 42 #[.string ⟨#[116]⟩,.slice (some ⟨g,0,none⟩) 3 3] w1;obtain⟨⟨b0,b1⟩,_⟩:=hX.two
 go_wp2_with (first
  | ((with_reducible refine (HNT.out _).mono ?_);rintro e w2 ⟨rfl,hE⟩;have E2:=zq (nS.out.trans ((Ev.alloc w1 _).trans hE));clear b0 b1;obtain⟨⟨b0,b1⟩,_⟩:=(hX.ev hE).two;clear hE)
  | ((with_reducible refine (HCT.out _ E2.out).mono ?_);rintro e w3 ⟨rfl,hE⟩;have Xd:=zq (E2.out.trans hE);clear hbl c0 c1 c2 c3;obtain⟨hbl,c0,c1,c2,c3⟩:=HN.out w3 Xd.out;clear hE E2))
 clear hX b0 b1;rw[rounds_succ];have hX:=Bx.new 42 #[.string ⟨#[117]⟩,.slice (some ⟨g+1,0,none⟩) 2 2] w3;obtain⟨⟨b0,b1⟩,_⟩:=hX.two
 go_wp2_with (first
  | ((with_reducible refine (HNU.out _).mono ?_);rintro e w4 ⟨rfl,hE⟩;have E2:=zq (Xd.out.trans ((Ev.alloc w3 _).trans hE));clear b0 b1;obtain⟨⟨b0,b1⟩,_⟩:=(hX.ev hE).two;clear hE)
  | ((with_reducible refine (HCU.out _ E2.out).mono ?_);rintro e w5 ⟨rfl,hE⟩;have Ht:=zq (E2.out.trans hE);clear hbl c0 c1 c2 c3;obtain⟨hbl,c0,c1,c2,c3⟩:=HN.out w5 Ht.out;clear hE E2))
 clear hX b0 b1;rw[rounds_succ];go_wp2;go_ret;exact⟨rfl,Ht.out⟩
def JZ (p:Pl):List C×Int×ByteArray:=if rJ p=[] then ([],12,⟨#[]⟩) else if (ckOf EX p).why=0 then ((ckOf EX p).cols,0,⟨#[]⟩) else ([],(ckOf EX p).why,(ckOf EX p).name)
def zn (R:List C×Int×ByteArray) (w:World) (e:Ending) (w':World):Prop:=∃v,e=.returned (.tuple #[v,.int .i64 R.2.1,.string R.2.2])∧Ow 50 2 eP w.heap.size w' v R.1∧Ev w w'
theorem acz (g:Nat):∀d∈tuD g,0<d.cols.length∧d.cols.length≤6:=fun d hd=>by unfold tuD at hd;rcases atA.1 hd with rfl|hd;exact⟨by show 0<lZ.length;decide,by show lZ.length≤6;decide⟩;simp at hd;subst hd;exact⟨by show 0<rX.length;decide,by show rX.length≤6;decide⟩
theorem aav (m:PM) (b0:Nat) (v:Value) (w:World) (hT:Tab w) (h:Qx b0 [] w m) (hg:m.p.good) (hsz:(aC m.p).size≤10000) (hlen:(printS (aC m.p)).length≤100000) (hv:Md v w):
  Calls Tryz.prog 7 #[.agg #[.int .i64 m.kind,.string ⟨m.name.toArray⟩,.slice m.ex.A m.ex.l.length m.ex.cap,.slice m.co.A m.co.l.length m.co.cap,.slice m.lf.A m.lf.l.length m.lf.cap,.slice m.rt.A m.rt.l.length m.rt.cap,.slice m.ag.A m.ag.l.length m.ag.cap,.slice m.A m.kids.length m.cap],v] w (zn (JZ m.p) w):=by
 have fJ:Tryz.prog.follows .mixedOrders=true:=by kernel_rfl
 have HDF:=zq (fun w1 (hE:Ev w w1)=>V7 v w1 (Md.mono _ _ _ hE hv));have EY:=zq (fun w1 (hE:Ev w w1)=>aas m b0 w1 (hT.ev hE) (h.ev hE) hg hsz hlen);have hfit:=Dw _ hg hsz;obtain⟨g,rfl,hD⟩:=hv;have HOF:=zq (fun w1 (hE:Ev w w1)=>ahR m.dep m b0 (tuD g) (some ⟨g+2,0,none⟩) 2 2 w1 (att _) (h.ev hE) hg hfit (hD.ev hE) (acz g));rw[afd]at HOF;obtain⟨w0,hw0,aT,hB,_⟩:=DI w m;obtain⟨⟨p0,p1,p2,p3,p4,p5,p6,p7⟩,_⟩:=hB.eight;have HE:=zq aT;have HB:=zq hB;unfold pv eU.v PM.kv at EY;unfold jE at HOF;unfold JZ zn;generalize rJ m.p=PS at*;generalize ckOf EX m.p=R at*;clear hT h hg hsz hlen hfit hD hB aT
 cases PS with
 | nil=>
  rw[if_pos rfl];go_enter Tryz.func7,Tryz.ntmps7
  go_wp2_with (first
   | ((with_reducible refine (HDF.out _ HE.out).mono ?_);rintro e w1 ⟨rfl,aH⟩;have E1:=zq (HE.out.trans aH);clear p0 p1 p2 p3 p4 p5 p6 p7;obtain⟨⟨p0,p1,p2,p3,p4,p5,p6,p7⟩,_⟩:=(HB.out.ev aH).eight;have sW:=zq (HB.out.ev aH);clear aH)
   | ((with_reducible refine (EY.out _ E1.out).mono ?_);rintro e w2 ⟨rfl,bK⟩;have E2:=zq (E1.out.trans bK);clear p0 p1 p2 p3 p4 p5 p6 p7;obtain⟨⟨p0,p1,p2,p3,p4,p5,p6,p7⟩,_⟩:=(sW.out.ev bK).eight;clear bK))
  go_ret3
  exact⟨_,rfl,Ow.nil_ _,E2.out⟩
 | cons x PS=>
  rw[if_neg (by simp)];have hne:((⟨(x::PS).toArray⟩:ByteArray).toList==[])=false:=by simp
  by_cases hw:R.why=0
  ·rw[if_pos hw];have Le:(R.why !=0)=false:=by simp[hw]
   go_enter Tryz.func7,Tryz.ntmps7
   go_wp2_with (first
    | ((with_reducible refine (HDF.out _ HE.out).mono ?_);rintro e w1 ⟨rfl,aH⟩;have E1:=zq (HE.out.trans aH);clear p0 p1 p2 p3 p4 p5 p6 p7;obtain⟨⟨p0,p1,p2,p3,p4,p5,p6,p7⟩,_⟩:=(HB.out.ev aH).eight;have sW:=zq (HB.out.ev aH);clear aH)
    | ((with_reducible refine (EY.out _ E1.out).mono ?_);rintro e w2 ⟨rfl,bK⟩;have E2:=zq (E1.out.trans bK);clear p0 p1 p2 p3 p4 p5 p6 p7;obtain⟨⟨p0,p1,p2,p3,p4,p5,p6,p7⟩,_⟩:=(sW.out.ev bK).eight;clear bK)
    | ((with_reducible refine (HOF.out _ E2.out).mono ?_);rintro e w3 ⟨v3,rfl,hO,pq,DV⟩;obtain⟨vA,vc,rfl,nN,oH⟩:=hO.form nM;clear nN oH;have iE:=pq.ev (fun k hk=>by cases hk);have E3:=zq (E2.out.trans iE);have HO:=zq (hO.GH (E2.out.size));clear hO pq DV iE p0 p1 p2 p3 p4 p5 p6 p7))
   go_ret3
   exact⟨_,rfl,HO.out.ev (Ev.alloc _ _),E3.out.trans (Ev.alloc _ _)⟩
  rw[if_neg hw];have Le:(R.why !=0)=true:=by simp[hw]
  go_enter Tryz.func7,Tryz.ntmps7;go_upto_region 7 with (first
   | ((with_reducible refine (HDF.out _ HE.out).mono ?_);rintro e w1 ⟨rfl,aH⟩;have E1:=zq (HE.out.trans aH);clear p0 p1 p2 p3 p4 p5 p6 p7;obtain⟨⟨p0,p1,p2,p3,p4,p5,p6,p7⟩,_⟩:=(HB.out.ev aH).eight;have sW:=zq (HB.out.ev aH);clear aH)
   | ((with_reducible refine (EY.out _ E1.out).mono ?_);rintro e w2 ⟨rfl,bK⟩;have E2:=zq (E1.out.trans bK);clear p0 p1 p2 p3 p4 p5 p6 p7;obtain⟨⟨p0,p1,p2,p3,p4,p5,p6,p7⟩,_⟩:=(sW.out.ev bK).eight;clear bK)
   | ((with_reducible refine (HOF.out _ E2.out).mono ?_);rintro e w3 ⟨v3,rfl,hO,pq,DV⟩;obtain⟨vA,vc,rfl,nN,oH⟩:=hO.form nM;clear nN oH;have iE:=pq.ev (fun k hk=>by cases hk);have E3:=zq (E2.out.trans iE);have HO:=zq (hO.GH (E2.out.size));clear hO pq DV iE p0 p1 p2 p3 p4 p5 p6 p7))
  have hRB:=Bx.new 58 #[.slice vA R.cols.length vc,.int .i64 R.why,.string R.name] w3;obtain⟨⟨g0,g1,g2⟩,_⟩:=hRB.three;clear hRB
  go_quiet (fail)
  go_wp2
  go_ret3
  exact⟨_,rfl,Ow.nil_ _,(E3.out.trans (Ev.alloc _ _)).trans (Ev.drewN _ _)⟩
theorem NM {A B:Option Addr} {n cap cap':Nat} {l:List C} (w:World) (h:Cs w A n cap l) (h':Cs w B n cap' l):
  Calls Tryz.prog 12 #[.slice A n cap,.slice B n cap'] w fun e w'=>e=.returned (.bool true)∧Ev w w':=by
 have hn:=h.le;have hm:=h.max;have hn':=h'.le;have hm':=h'.max;go_enter Tryz.func12,Tryz.ntmps12;go_wp2
 go_loopw [5] (fun i wr=>∃k:Nat,k≤n∧i=.int .i64 k∧Ev w wr) (fun i _=>n - (intOf i).toNat)
 case atStart=>exact⟨0,atG _,rfl,Ev.refl _⟩
 case round=>
  obtain⟨k,hk,rfl,hE⟩:=hrel;by_cases hlt:k<n
  ·obtain⟨x,hx⟩:=(h.ev hE).at hlt;obtain⟨b1,off,rfl,c0,c1⟩:=Cs.I_ (h.ev hE) hx;obtain⟨b2,off',rfl,d0,d1⟩:=Cs.I_ (h'.ev hE) hx;have i1:(0:Int)≤(k:Int):=by omega
   have i2:(k:Int)<(n:Int):=by omega
   clear hx h h'
   go_wp2_with fail
   refine wp_region_quiet_lit (by kernel_rfl) (by kernel_rfl) ?_
   repeat (quiet_step (fail))
   refine wpQuiet_nil ?_;rintro _ ⟨nq,rfl⟩;go_wp2;go_roundw
   case rel=>exact⟨k+1,by omega,by go_num,hE.trans (Ev.drewN _ _)⟩
   case measure=>simp[intOf];omega
  obtain rfl:k=n:=by omega
  go_wp2;go_ret;exact⟨rfl,hE⟩
def NP (p:Pl) (w:World) (e:Ending) (w':World):Prop:=∃m:PM,e=.returned (.agg #[.int .i64 m.kind,.string ⟨m.name.toArray⟩,.slice m.ex.A m.ex.l.length m.ex.cap,.slice m.co.A m.co.l.length m.co.cap,.slice m.lf.A m.lf.l.length m.lf.cap,.slice m.rt.A m.rt.l.length m.rt.cap,.slice m.ag.A m.ag.l.length m.ag.cap,.slice m.A m.kids.length m.cap])∧m.p=p∧Qx 0 [] w' m∧Ev w w'
theorem Vg (s:By) (w:World) (hs:s.length≤100000):Calls Tryz.prog 8 #[.string ⟨s.toArray⟩] w (NP (dJ s).1 w):=by
 have HR:=zq (fun w1=>acI s w1 hs);obtain⟨w0,hw0,aT,hB0,hs0⟩:=sS w;have rQ:=zq hB0;have dH:=zq aT;obtain⟨⟨d0,d1,d2,d3,d4,d5,d6,d7⟩,r0,r1,r2,r3,r4,r5,r6,r7⟩:=hB0.eight;unfold bu at HR;unfold NP;generalize dJ s=R at*;obtain⟨Rp,Rw,Rx⟩:=R;simp only at HR⊢;clear hB0 aT;go_enter Tryz.func8,Tryz.ntmps8
 go_wp2_with (first
  | ((with_reducible refine (HR.out _).mono ?_);rintro r w1 ⟨m,rfl,hmp,ZO,aH⟩;simp only[];obtain⟨w2,hw2,bK,hB2,_⟩:=DI w1 m;have E2:=zq (aH.trans bK);have HMP:=zq hmp;have HMQ:=zq ((ZO.ev bK).less (K':=[w.heap.size]) (fun k hk=>by simp at hk;subst hk;exact .inr (.inl (by omega))));obtain⟨⟨p0,p1,p2,p3,p4,p5,p6,p7⟩,_⟩:=hB2.eight;clear d0 d1 d2 d3 d4 d5 d6 d7 r0 r1 r2 r3 r4 r5 r6 r7;obtain⟨⟨d0,d1,d2,d3,d4,d5,d6,d7⟩,r0,r1,r2,r3,r4,r5,r6,r7⟩:=(rQ.out.ev E2.out).eight;have jq:=zq (rQ.out.ev E2.out);clear hmp ZO aH bK hB2))
 (try simp only[Exit.inBlock,Exit.then]);rw[bg];refine bodyPost_ret (aP rfl _ _ _ _ _ rfl (jq.out.iw _ _ _ _ _ _ _ _) Tryz.underlying32 rfl Tryz.bJ) rfl ?_;exact⟨m,rfl,HMP.out,((HMQ.out.move (bQ _ _ _ _ _ _ _ _ _ _) fun k hk=>.inl hk).less (K':=[]) fun k hk=>by cases hk).low (atG _),(dH.out.trans E2.out).box (bQ _ _ _ _ _ _ _ _ _ _) (att _)⟩
theorem Vh (m:PM) (b0:Nat) (v:Value) (w:World) (hT:Tab w) (h:Qx b0 [] w m) (hm:m.p=gQ) (hv:Md v w):
  Calls Tryz.prog 7 #[.agg #[.int .i64 m.kind,.string ⟨m.name.toArray⟩,.slice m.ex.A m.ex.l.length m.ex.cap,.slice m.co.A m.co.l.length m.co.cap,.slice m.lf.A m.lf.l.length m.lf.cap,.slice m.rt.A m.rt.l.length m.rt.cap,.slice m.ag.A m.ag.l.length m.ag.cap,.slice m.A m.kids.length m.cap],v] w (zn ([],12,⟨#[]⟩) w):=by
 have HDF:=zq (fun w1 (hE:Ev w w1)=>V7 v w1 (Md.mono _ _ _ hE hv));have EY:=zq (fun w1 (hE:Ev w w1)=>XU m b0 w1 (hT.ev hE) (h.ev hE) hm);obtain⟨g,rfl,hD⟩:=hv;obtain⟨w0,hw0,aT,hB,_⟩:=DI w m;obtain⟨⟨p0,p1,p2,p3,p4,p5,p6,p7⟩,_⟩:=hB.eight;have HE:=zq aT;have HB:=zq hB;unfold pv eU.v PM.kv at EY;unfold zn;clear hT h hm hD hB aT;go_enter Tryz.func7,Tryz.ntmps7
 go_wp2_with (first
  | ((with_reducible refine (HDF.out _ HE.out).mono ?_);rintro e w1 ⟨rfl,aH⟩;have E1:=zq (HE.out.trans aH);clear p0 p1 p2 p3 p4 p5 p6 p7;obtain⟨⟨p0,p1,p2,p3,p4,p5,p6,p7⟩,_⟩:=(HB.out.ev aH).eight;have sW:=zq (HB.out.ev aH);clear aH)
  | ((with_reducible refine (EY.out _ E1.out).mono ?_);rintro e w2 ⟨rfl,bK⟩;have E2:=zq (E1.out.trans bK);clear p0 p1 p2 p3 p4 p5 p6 p7;obtain⟨⟨p0,p1,p2,p3,p4,p5,p6,p7⟩,_⟩:=(sW.out.ev bK).eight;clear bK))
 go_ret3
 exact⟨_,rfl,Ow.nil_ _,E2.out⟩
def KF (s:By):List C×Int×ByteArray:=if (dJ s).2.1=0 then JZ (dJ s).1 else ([],12,⟨#[]⟩)
theorem PO (s:By) (m:PM) (v:Value) (w:World) (hT:Tab w) (h:Qx 0 [] w m) (hm:m.p=(dJ s).1) (hv:Md v w):
  Calls Tryz.prog 7 #[.agg #[.int .i64 m.kind,.string ⟨m.name.toArray⟩,.slice m.ex.A m.ex.l.length m.ex.cap,.slice m.co.A m.co.l.length m.co.cap,.slice m.lf.A m.lf.l.length m.lf.cap,.slice m.rt.A m.rt.l.length m.rt.cap,.slice m.ag.A m.ag.l.length m.ag.cap,.slice m.A m.kids.length m.cap],v] w (zn (KF s) w):=by
 unfold KF;by_cases h0:(dJ s).2.1=0;rw[if_pos h0];have hW:=KD s h0;rw[←hm]at hW⊢;exact aav m 0 v w hT h hW.wr.good (by have:=hW.wr.size;omega) (by have:=hW.aeQ;omega) hv;rw[if_neg h0];exact Vh m 0 v w hT h (hm.trans (Sr s h0)) hv
def ka:By:=[40,116,97,98,108,101,32,116,41]
def kb:By:=[40,103,114,111,117,112,32,40,97,41,32,40,97,32,99,111,117,110,116,41,32,40,116,97,98,108,101,32,116,41,41]
theorem aft:KF ka=(lZ,0,⟨#[]⟩):=by kernel_rfl
theorem afu:KF kb=([],21,⟨#[97]⟩):=by kernel_rfl
theorem acJ (w:World) (hT:Tab w):Calls Tryz.prog 14 #[] w fun e w'=>e=.returned (.bool true)∧Ev w w':=by
 have HA:Hid (∀w1,Calls Tryz.prog 8 #[.string ⟨#[40,116,97,98,108,101,32,116,41]⟩] w1 (NP (dJ ka).1 w1)):=zq fun w1=>Vg ka w1 (by decide);have HB:Hid (∀w1,Calls Tryz.prog 8 #[.string ⟨#[40,103,114,111,117,112,32,40,97,41,32,40,97,32,99,111,117,110,116,41,32,40,116,97,98,108,101,32,116,41,41]⟩] w1 (NP (dJ kb).1 w1)):=zq fun w1=>Vg kb w1 (by decide);have HDF:=zq JX;have HO1:=zq (fun (m:PM) (v:Value) w1 (hE:Ev w w1) (h:Qx 0 [] w1 m) (hm:m.p=(dJ ka).1) (hv:Md v w1)=>PO ka m v w1 (hT.ev hE) h hm hv);have HO2:=zq (fun (m:PM) (v:Value) w1 (hE:Ev w w1) (h:Qx 0 [] w1 m) (hm:m.p=(dJ kb).1) (hv:Md v w1)=>PO kb m v w1 (hT.ev hE) h hm hv);have HT:=zq aem;have dH:=zq (Ev.refl w);rw[aft]at HO1;rw[afu]at HO2;unfold NP at HA HB;unfold zn at HO1 HO2;generalize dJ ka=ra at*;generalize dJ kb=rb at*;clear hT;go_enter Tryz.func14,Tryz.ntmps14
 go_wp2_with (first
  | ((with_reducible refine (HA.out _).mono ?_);rintro e w1 ⟨m1,rfl,hm,hq,hE⟩;have HM1:=zq hm;have HQ1:=zq hq;have E1:=zq (dH.out.trans hE);clear hm hq hE)
  | ((with_reducible refine (HDF.out _).mono ?_);rintro e w2 ⟨v1,rfl,hE,hv⟩;have HV1:=zq hv;have E2:=zq (E1.out.trans hE);have amh:=zq (HQ1.out.ev hE);clear hv hE)
  | ((with_reducible refine (HO1.out m1 v1 _ (E2.out) amh.out HM1.out HV1.out).mono ?_);rintro e w3 ⟨x1,rfl,hO,hE⟩;have Qy:=zq hO;have E3:=zq (E2.out.trans hE);obtain⟨xA1,xc1,rfl,nN,oH⟩:=hO.form nM;have HC1:=zq nN;clear oH nN hO hE)
  | ((with_reducible refine (HB.out _).mono ?_);rintro e w4 ⟨m2,rfl,hm,hq,hE⟩;have HM2:=zq hm;have HQ2:=zq hq;have E4:=zq ((zq (Ev.refl w3)).out.trans hE);clear hm hq hE)
  | ((with_reducible refine (HDF.out _).mono ?_);rintro e w5 ⟨v2,rfl,hE,hv⟩;have HV2:=zq hv;have E5:=zq (E4.out.trans hE);have ami:=zq (HQ2.out.ev hE);clear hv hE)
  | ((with_reducible refine (HO2.out m2 v2 _ (E3.out.trans E5.out) ami.out HM2.out HV2.out).mono ?_);rintro e w6 ⟨x2,rfl,hO,hE⟩;have HX2:=zq hO;have E6:=zq (E5.out.trans hE);obtain⟨xA2,xc2,rfl,nN,oH⟩:=hO.form nM;have HC2:=zq nN;clear oH nN hO hE)
  | ((with_reducible refine (HT.out _).mono ?_);rintro e w7 ⟨rfl,hC7,hE⟩;have HK:Hid (Calls Tryz.prog 12 #[.slice xA1 lZ.length xc1,.slice (some ⟨w6.heap.size,0,none⟩) 3 3] w7 fun e w'=>e=.returned (.bool true)∧Ev w7 w'):=zq (NM w7 (HC1.out.ev (E6.out.trans hE)) hC7);have E7:=zq (E3.out.trans (E6.out.trans hE));clear hC7 hE)
  | ((with_reducible refine (HK.out).mono ?_);rintro e w8 ⟨rfl,hE⟩))
 go_ret;exact⟨rfl,E7.out.trans hE⟩
abbrev Vj (k:Int):Prop:=k=1∨k=2
structure mD (l:List C):Prop where
 each:∀c∈l,fM c.1=true∧Vj c.2
 apart:l.Pairwise fun a b=>named b.1 a=false
theorem Sz {l:List C} {s:ByteArray}:(iO l s).isSome=false↔∀c∈l,named s c=false:=by unfold iO;rw[Option.isSome_eq_false_iff,Option.isNone_iff_eq_none,au_]
theorem mD.nil:mD []:=⟨fun c h=>(by cases h),List.Pairwise.nil⟩
theorem mD.add {l:List C} {nm:ByteArray} {k:Int} (h:mD l) (hn:fM nm=true) (hk:Vj k) (hf:(iO l nm).isSome=false):mD (l++[(nm,k)]):=by refine⟨fun c hc=>?_,?_⟩;rcases atK.1 hc with h1|h1;exact h.each c h1;simp at h1;subst h1;exact⟨hn,hk⟩;rw[List.pairwise_append];refine⟨h.apart,List.pairwise_singleton _ _,fun a ha b hb=>?_⟩;simp at hb;subst hb;exact Sz.1 hf a ha
theorem SA:∀(r pre:List C),mD (pre++r)→colsFrom pre r=0
 | [],_,_=>rfl
 | c::r,pre,h=>by
  have h1:=h.each c (by simp);have h2:(iO pre c.1).isSome=false:=Sz.2 fun a ha=>(List.pairwise_append.1 h.apart).2.2 a ha c (atz ..);have h3:(fM c.1&&(c.2==1||c.2==2))=true:=by rw[h1.1];rcases h1.2 with e|e<;>simp[e]
  unfold colsFrom;rw[if_neg (by rw[h3];decide),if_neg (by rw[h2];decide)];exact SA r (pre++[c]) (by rw[atS];exact h)
theorem mD.right {l:List C} (h:mD l) (h1:1≤l.length) (h6:l.length≤6):yx l=0:=by unfold yx;rw[if_pos (by simp[h1,h6])];exact SA l [] h
theorem We {l:List C} {s:ByteArray} (h:mD l) (hf:(iO l s).isSome=true):Vj (dR l s):=by
 obtain⟨i,hi⟩:=Option.isSome_iff_exists.1 hf;obtain⟨c,hc⟩:∃c,l[i]?=some c:=⟨_,atN (IB hi)⟩
 unfold dR;rw[hi];simp only;rw[aus,hc];exact (h.each c (atw hc)).2
theorem afv {ks:List Int} (hk:∀k∈ks,Vj k) {i:Nat} (hi:i<ks.length):Vj (ks.getD i 0):=by rw[aus,atN hi];exact hk _ (List.getElem_mem hi)
theorem SB {s:By} {ks:List Int} (h:(bH s ks).2=0) (hk:∀k∈ks,Vj k) (hl:s=Lh→2≤ks.length):Vj (bH s ks).1:=by
 unfold bH at h⊢;have key:∀(b:Bool) (k:Int),Vj k→(if b=true then (k,0) else ((0:Int),(22:Int))).2=0→Vj (if b=true then (k,0) else ((0:Int),(22:Int))).1:=fun b k hk hb=>by
  cases b
  simp at hb;exact hk
 split at h;rename_i h1;rw[if_pos h1];exact key _ _ (.inl rfl) h;rename_i h1;rw[if_neg h1];split at h;rename_i h2;rw[if_pos h2];exact key _ _ (.inl rfl) h;rename_i h2;rw[if_neg h2];split at h;rename_i h3;rw[if_pos h3];exact key _ _ (.inr rfl) h;rename_i h3;rw[if_neg h3];split at h;rename_i h4;rw[if_pos h4];exact key _ _ (.inl rfl) h;rename_i h4;rw[if_neg h4];split at h;rename_i h5;rw[if_pos h5];exact key _ _ (afv hk (atM (by decide) (hl (by simpa using h5)))) h;exact absurd h (by decide)
mutual
theorem KG {cols:List C} (hc:∀c∈cols,Vj c.2):∀t:T,dK t=true→(xKind cols t).2=0→Vj (xKind cols t).1
 | .mk k s n l p=>fun hr h=>by
  have hl:=Gl hc l;rw[dK,atu]at hr;rw[xKind]at h⊢;split at h;rename_i h1;rw[if_pos h1]
  cases hf:iO cols (dh s) with
  | none=>rw[hf]at h;simp at h
  | some i=>
   obtain⟨c,hcc⟩:∃c,cols[i]?=some c:=⟨_,atN (IB hf)⟩
   simp only;rw[aus,hcc];exact hc c (atw hcc)
  rename_i h1;rw[if_neg h1];split at h;rename_i h2;rw[if_pos h2];exact .inl rfl;rename_i h2;rw[if_neg h2];split at h;rename_i h3;rw[if_pos h3];exact .inr rfl;rename_i h3;rw[if_neg h3];have ha:=Fz s _ _ h;rw[CV s _ _ ha]at h⊢;refine SB h (fun x hx=>?_) (fun hs=>?_);rw[auv]at hx;obtain⟨r,hr2,rfl⟩:=atV.1 hx;exact hl hr.2 r hr2 (ha r hr2);have lK:=hr.1;subst hs;have hx:bC Lh=3:=by decide+kernel
  have e1:(k==1)=false:=by simpa using h1
  have e2:(k==2)=false:=by simpa using h2
  have e3:(k==3)=false:=by simpa using h3
  have h5:l.length=3:=by
   cases e4:(k==4)
   simp[kT,T.kind,e1,e2,e3,e4]at lK;simp[kT,T.kind,T.s,T.n,T.kids,e1,e2,e3,e4,hx]at lK;exact lK.2
  rw[auv,atq,Bf,atq,h5];decide
theorem Gl {cols:List C} (hc:∀c∈cols,Vj c.2):∀l:List T,qJ l=true→∀r∈Be cols l,r.2=0→Vj r.1
 | []=>fun _ r hr=>by rw[Be]at hr;cases hr
 | t::l=>fun h r hr h0=>by have ht:=KG hc t;have hl:=Gl hc l;rw[qJ,atu]at h;rw[Be]at hr;rcases atA.1 hr with e|hr;rw[e]at h0⊢;exact ht h.1 h0;exact hl h.2 r hr h0
end
theorem Vk {l:List C} (h:mD l) {e:T} (he:(xType l e).2=0):Vj (xType l e).1:=by obtain⟨h1,h2⟩:=Y1 he;unfold xType;rw[if_pos h1];exact KG (fun c hc=>(h.each c hc).2) e h1 h2
def wF (r:CR):Prop:=r.why=0→mD r.cols
theorem CR.afw {r:CR} {why:Int} {nm:ByteArray} (h:(r.fail why nm).why=0):r.why=0:=by unfold CR.fail at h;by_cases hw:r.why=0;exact hw;rwa [if_neg hw]at h
theorem wF.fail {r:CR} {why:Int} {nm:ByteArray} (h:wF r):wF (r.fail why nm):=fun h0=>by rw[CR.f_];exact h (CR.afw h0)
theorem wF.find {r:CR} {l:List C} {s:ByteArray} (h:wF r):wF (r.find l s):=fun h0=>by rw[CR.iC];exact h (CR.Jc.1 h0).1
theorem wF.kind {r:CR} {l:List C} {e:T} (h:wF r):wF (r.kind l e):=fun h0=>by rw[CR.nV];exact h (CR.QM.1 h0).1
theorem wF.once {r:CR} {l:List By} {s:ByteArray} (h:wF r):wF (r.once l s):=fun h0=>by rw[CR.mO];exact h (CR.Zt.1 h0).1
theorem wF.limit {r:CR} (h:wF r):wF r.limit:=fun h0=>by rw[CR.jK];exact h (CR.qg.1 h0).1
theorem wF.add {r:CR} {nm:ByteArray} {k:Int} (h:wF r) (hn:fM nm=true) (hk:r.why=0→Vj k):wF (r.add nm k):=fun h0=>by obtain⟨h1,h2⟩:=CR.abU.1 h0;rw[CR.kU];exact (h h1).add hn (hk h1) h2
theorem wF.fold {α:Type} {f:CR→α→CR}:∀(l:List α) (r:CR),wF r→(∀r x,x∈l→wF r→wF (f r x))→wF (l.foldl f r)
 | [],r,h,_=>h
 | x::l,r,h,hf=>wF.fold l (f r x) (hf r x (atz ..) h) fun r y hy=>hf r y (aty _ hy)
theorem wF.zero:wF CR.zero:=fun _=>mD.nil
theorem wF.of {l:List C} (h:mD l):wF (CR.of l):=fun _=>h
theorem wF.agg {r:CR} {kid:List C} {a:Ag} (h:wF r) (hk:mD kid) (ha:I5 a):wF (r.agg kid a):=by unfold CR.agg;split;simp only;split;exact (h.add ha.1 fun _=>.inl rfl).find;exact (h.add ha.1 fun _=>.inl rfl).find.fail;split;intro h0;obtain⟨h1,h2⟩:=CR.Jc.1 h0;rw[CR.iC];exact h.add ha.1 (fun _=>We hk h2) h1;exact h.add ha.1 fun _=>.inl rfl
def Rt (r:CR):Prop:=r.why=0→mD r.cols∧1≤r.cols.length∧r.cols.length≤6
theorem SC {α:Type} (f:CR→α→CR) (hf:∀r x,r.cols.length≤(f r x).cols.length):∀(l:List α) (r:CR),r.cols.length≤(l.foldl f r).cols.length
 | [],r=>att _
 | x::l,r=>atP (hf r x) (SC f hf l (f r x))
theorem foldl_eq {α:Type} (f:CR→α→CR) (hf:∀r x,(f r x).cols=r.cols):∀(l:List α) (r:CR),(l.foldl f r).cols=r.cols
 | [],r=>rfl
 | x::l,r=>(foldl_eq f hf l (f r x)).trans (hf r x)
theorem SE (a b:List C) (r:CR) (i:Nat):(qf a b r i).cols=r.cols:=by unfold qf;split;rfl;exact CR.f_ ..
theorem SG (lf rt:List By) (a b:List C) (r:CR) (i:Nat):(vz lf rt a b r i).cols=r.cols:=by unfold vz;simp only;split;rw[CR.mO,CR.mO,CR.iC,CR.iC];rw[CR.f_,CR.mO,CR.mO,CR.iC,CR.iC]
theorem Vl {D:List Df} (hD:∀d∈D,mD d.2∧1≤d.2.length∧d.2.length≤6) {k:Int} {nm:By} {es:List T} {cs lf rt:List By} {ag:List Ag} {kids:List (List C)} (hg:wS k nm es cs lf rt ag kids.length) (hk:∀K∈kids,mD K∧1≤K.length∧K.length≤6):
  Rt (Jb D k nm es cs lf rt ag kids):=by
 have wU:∀i,i<kids.length→mD (kids.getD i [])∧1≤(kids.getD i []).length∧(kids.getD i []).length≤6:=fun i hi=>by rw[aus,atN hi];exact hk _ (List.getElem_mem hi)
 rcases hg with⟨rfl,-,-,-,-,-,-,hn⟩|⟨rfl,-,-,-,-,-,-,hn⟩|⟨rfl,-,hes,Tj,h1c,hcs,-,-,-,hn⟩|⟨rfl,-,-,-,-,-,-,hn⟩|⟨rfl,-,-,-,-,-,-,hn⟩|⟨rfl,-,-,-,-,-,-,hn⟩|⟨rfl,-,-,-,rC,-,zf,hn⟩
 show Rt (sK D nm);unfold sK
 cases hf:D.find? (fun d=>d.1==nm) with
 | none=>intro h;exact absurd h (CR.qV (by decide))
 | some d=>intro _;exact hD d (List.mem_of_find?_eq_some hf)
 show Rt (ny (es.getD 0 dM) (kids.getD 0 []));have h0:=wU 0 (by omega);intro h;have hc:(ny (es.getD 0 dM) (kids.getD 0 [])).cols=kids.getD 0 []:=by unfold ny;simp only;split;rw[CR.nV];rfl;rw[CR.f_,CR.nV];rfl
 rw[hc];exact h0
 ·show Rt (p_ es cs (kids.getD 0 []));have h0:=wU 0 (by omega);intro h;unfold p_ at h⊢;have h2:=(CR.qg.1 h).2;have hge:(es.zip cs).length≤((es.zip cs).foldl (uu (kids.getD 0 [])) CR.zero).cols.length:=by
   have key:∀(l:List (T×By)) (r:CR),r.cols.length+l.length≤(l.foldl (uu (kids.getD 0 [])) r).cols.length:=fun l=>by
    induction l with
    | nil=>intro r;exact att _
    | cons x l ih=>
     intro r;have h5:=ih (uu (kids.getD 0 []) r x);have h6:(uu (kids.getD 0 []) r x).cols.length=r.cols.length+1:=by unfold uu;rw[CR.kU,CR.nV];simp
     rw[auR,atF];omega
   have:=key (es.zip cs) CR.zero;have h7:CR.zero.cols.length=0:=rfl;omega
  have hzl:(es.zip cs).length=cs.length:=by rw[List.length_zip,Tj];omega
  refine⟨(wF.limit (wF.fold _ _ wF.zero fun r x hx hr=>?_)) h,?_,?_⟩;have hx2:fM (dh x.2)=true:=hcs x.2 (List.of_mem_zip hx).2;unfold uu;exact hr.kind.add hx2 fun h9=>Vk h0.1 (CR.QM.1 h9).2;rw[CR.jK];omega;rw[CR.jK];exact h2
 show Rt (rM lf rt (kids.getD 0 []) (kids.getD 1 []));have h0:=wU 0 (by omega);have h1:=wU 1 (by omega);intro h;unfold rM at h⊢;split at h;rename_i hc;rw[if_pos hc];have h2:=(CR.qg.1 h).2;have dG:((List.range lf.length).foldl (vz lf rt (kids.getD 0 []) (kids.getD 1 [])) (CR.of (kids.getD 0 []))).cols=kids.getD 0 []:=foldl_eq _ (SG lf rt _ _) _ _;have hge:=SC (oI rt) (fun r c=>by unfold oI;split;exact att _;rw[CR.kU];simp) (kids.getD 1 []) ((List.range lf.length).foldl (vz lf rt (kids.getD 0 []) (kids.getD 1 [])) (CR.of (kids.getD 0 [])));rw[dG]at hge;refine⟨(wF.limit (wF.fold _ _ (wF.fold _ _ (wF.of h0.1) fun r i hi hr=>?_) fun r c hc2 hr=>?_)) h,?_,?_⟩;unfold vz;simp only;split;exact hr.find.find.once.once;exact hr.find.find.once.once.fail;unfold oI;split;exact hr;exact hr.add (h1.1.each c hc2).1 fun _=>(h1.1.each c hc2).2;rw[CR.jK];exact atP h0.2.1 hge;rw[CR.jK];exact h2;exact absurd h (CR.qV (by decide));show Rt (oJ (kids.getD 0 []) (kids.getD 1 []));have h0:=wU 0 (by omega);intro h;have hc:(oJ (kids.getD 0 []) (kids.getD 1 [])).cols=kids.getD 0 []:=by unfold oJ;split;exact foldl_eq _ (SE _ _) _ _;exact CR.f_ ..
 rw[hc];exact h0;show Rt (CR.of (kids.getD 0 []));exact fun _=>wU 0 (by omega);show Rt (xX lf ag (kids.getD 0 []));have h0:=wU 0 (by omega);intro h;unfold xX at h⊢;simp only at h⊢;have A8:wF (ag.foldl (fun r a=>r.agg (kids.getD 0 []) a) (lf.foldl (rO (kids.getD 0 [])) CR.zero)):=by refine wF.fold _ _ (wF.fold _ _ wF.zero fun r s hs hr=>?_) fun r a ha hr=>hr.agg h0.1 (zf a ha);have hs2:fM (dh s)=true:=rC s hs;unfold rO;exact hr.find.add hs2 fun h9=>We h0.1 (CR.Jc.1 h9).2
 generalize (ag.foldl (fun r a=>r.agg (kids.getD 0 []) a) (lf.foldl (rO (kids.getD 0 [])) CR.zero))=R at*;have h2:=CR.qg.1 h;by_cases hl:R.cols.length=0;rw[if_pos hl]at h2;exact absurd h2.1 (CR.qV (by decide));rw[if_neg hl]at h h2⊢;exact⟨A8.limit h,by rw[CR.jK];omega,by rw[CR.jK];exact h2.2⟩
mutual
theorem KH {D:List Df} (hD:∀d∈D,mD d.2∧1≤d.2.length∧d.2.length≤6):∀p:Pl,p.good→Rt (ckOf D p)
 | .mk k nm es cs lf rt ag l=>fun hg=>by
  have hl:=Gm hD l;rw[Pl.good]at hg;rw[ckOf]
  cases hb:yA (ckAll D l) with
  | some r=>intro h;exact absurd h (Nb hb)
  | none=>
   refine Vl hD (by rw[atq,EC,atq];exact hg.1) fun K hK=>?_;obtain⟨r,hr,rfl⟩:=atV.1 hK;exact hl hg.2 r hr (QL hb r hr)
theorem Gm {D:List Df} (hD:∀d∈D,mD d.2∧1≤d.2.length∧d.2.length≤6):∀l:List Pl,Pl.I7 l→∀r∈ckAll D l,Rt r
 | []=>fun _ r hr=>by rw[ckAll]at hr;cases hr
 | p::l=>fun hg r hr=>by have hp:=KH hD p;have hl:=Gm hD l;rw[Pl.I7]at hg;rw[ckAll]at hr;rcases atA.1 hr with e|hr;rw[e];exact hp hg.1;exact hl hg.2 r hr
end
theorem X9:∀d∈EX,mD d.2∧1≤d.2.length∧d.2.length≤6:=fun d hd=>by
 unfold EX at hd;have g1:mD lZ:=⟨fun c hc=>by
  unfold lZ at hc;simp only[atA,atY,or_false]at hc;rcases hc with rfl|rfl|rfl;exact⟨by decide+kernel,.inl rfl⟩;exact⟨by decide+kernel,.inl rfl⟩;exact⟨by decide+kernel,.inr rfl⟩,by decide+kernel⟩
 have g2:mD rX:=⟨fun c hc=>by
  unfold rX at hc;simp only[atA,atY,or_false]at hc;rcases hc with rfl|rfl;exact⟨by decide+kernel,.inl rfl⟩;exact⟨by decide+kernel,.inl rfl⟩,by decide+kernel⟩
 simp only[atA,atY,or_false]at hd;rcases hd with rfl|rfl;exact⟨g1,by decide,by decide⟩;exact⟨g2,by decide,by decide⟩
def num1:T:=.mk 2 [] 1 [] 0
def qPlan:Nat→Pl→Pl
 | 0,p=>.mk 2 [] [num1] [] [] [] [] [p]
 | 1,p=>.mk 6 [] [] [] [] [] [] [p]
 | _,p=>.mk 5 [] [] [] [] [] [] [p,p]
theorem Fb {k:Nat} (h:k<3):k=0∨k=1∨k=2:=by omega
theorem Ya:uq num1:=⟨by kernel_rfl,by kernel_rfl,by kernel_rfl,by kernel_rfl⟩
theorem Vm {k:Nat} (hk:k<3) {p:Pl} (hp:p.good):(qPlan k p).good:=by rcases Fb hk with rfl|rfl|rfl;exact⟨.inr (.inl ⟨rfl,rfl,⟨_,rfl,Ya⟩,rfl,rfl,rfl,rfl,rfl⟩),hp,trivial⟩;exact⟨.inr (.inr (.inr (.inr (.inr (.inl ⟨rfl,rfl,rfl,rfl,rfl,rfl,rfl,rfl⟩))))),hp,trivial⟩;exact⟨.inr (.inr (.inr (.inr (.inl ⟨rfl,rfl,rfl,rfl,rfl,rfl,rfl,rfl⟩)))),hp,hp,trivial⟩
def KI:Nat→Pl→List T
 | 0,_=>[aN dL,xTree num1]
 | 1,_=>[aN dw]
 | _,p=>[aN fP,aC p]
theorem KJ {k:Nat} (hk:k<3) (p:Pl):aC (qPlan k p)=bU (KI k p++[aC p]):=by rcases Fb hk with rfl|rfl|rfl<;>(rw[xm];rfl)
theorem Vo {k:Nat} (hk:k<3) (p:Pl):(aC (qPlan k p)).size≤2*(aC p).size+10:=by
 have e1:(aN dL).size=1:=by kernel_rfl
 have e2:(xTree num1).size=1:=by kernel_rfl
 have e3:(aN dw).size=1:=by kernel_rfl
 have e4:(aN fP).size=1:=by kernel_rfl
 rw[KJ hk,qw];rcases Fb hk with rfl|rfl|rfl;simp[KI,e1,e2];omega;simp[KI,e3];omega;simp[KI,e4];omega
theorem Yb {k:Nat} (hk:k<3) (p:Pl):(printS (aC (qPlan k p))).length≤2*(printS (aC p)).length+40:=by
 have e1:(printL true [aN dL,xTree num1]).length=8:=by kernel_rfl
 have e3:(printL true [aN dw]).length=8:=by kernel_rfl
 have e4:(printL true [aN fP]).length=5:=by kernel_rfl
 rw[KJ hk,bU,pR,lW];rcases Fb hk with rfl|rfl|rfl;simp[KI,e1];omega;simp[KI,e3];omega;have h2:printL true [aN fP,aC p]=printL true [aN fP]++([32]++printS (aC p)):=lW [aN fP] true (aC p);simp[KI,h2,e4];omega
theorem Yc (l:List C):xType l num1=(1,0):=by unfold xType;rw[if_pos (by kernel_rfl)];unfold num1;rw[xKind];rfl
theorem NQ (l:List C):∀(n:Nat),(List.range n).foldl (qf l l) (CR.of l)=CR.of l
 | 0=>rfl
 | n+1=>by rw[vC,NQ l n];unfold qf;rw[if_pos rfl]
theorem amj {k:Nat} (hk:k<3) {p:Pl} (h0:(ckOf EX p).why=0):ckOf EX (qPlan k p)=CR.of (ckOf EX p).cols:=by rcases Fb hk with rfl|rfl|rfl;show ckOf EX (.mk 2 [] [num1] [] [] [] [] [p])=_;rw[ckOf,ckAll,ckAll,xY (by simp[h0])];show ny num1 (ckOf EX p).cols=_;unfold ny CR.kind;simp only[Yc,if_true];show ckOf EX (.mk 6 [] [] [] [] [] [] [p])=_;rw[ckOf,ckAll,ckAll,xY (by simp[h0])];rfl;show ckOf EX (.mk 5 [] [] [] [] [] [] [p,p])=_;rw[ckOf,ckAll,ckAll,ckAll,xY (by simp[h0])];show oJ (ckOf EX p).cols (ckOf EX p).cols=_;unfold oJ;rw[if_pos rfl,NQ]
theorem aio {k:Nat} (hk:k<3) {p:Pl} (h0:(ckOf EX p).why=0):JZ (qPlan k p)=([],12,⟨#[]⟩)∨JZ (qPlan k p)=((ckOf EX p).cols,0,⟨#[]⟩):=by unfold JZ;rw[amj hk h0];by_cases h:rJ (qPlan k p)=[];rw[if_pos h];exact .inl rfl;rw[if_neg h,if_pos (show (CR.of (ckOf EX p).cols).why=0 from rfl)];exact .inr rfl
theorem WrP.shown {p:Pl} (h:WrP p):rJ p≠[]:=by unfold rJ;rw[if_pos ⟨h.aeQ,h.deep⟩];exact h.wr.ne
theorem WrP.JZ {p:Pl} (h:WrP p):JZ p=if (ckOf EX p).why=0 then ((ckOf EX p).cols,0,⟨#[]⟩) else ([],(ckOf EX p).why,(ckOf EX p).name):=by unfold YtpbfokkocaemlaaGreatDoor.JZ;rw[if_neg h.shown]
def q0 (b:Nat) (m:PM):PM:=.mk 2 [] ⟨some ⟨b,0,none⟩,1,[.mk 2 [] 1 none 0 [] 0]⟩ .nil .nil .nil .nil (some ⟨b+1,0,none⟩) 1 [m]
def q1 (b:Nat) (m:PM):PM:=.mk 6 [] .nil .nil .nil .nil .nil (some ⟨b+2,0,none⟩) 1 [m]
def q2 (b:Nat) (m:PM):PM:=.mk 5 [] .nil .nil .nil .nil .nil (some ⟨b+3,0,none⟩) 2 [m,m]
def qL (b:Nat) (m:PM):List PM:=[q0 b m,q1 b m,q2 b m]
theorem amk (b:Nat) (m:PM) {k:Nat} (hk:k<3):∃u,(qL b m)[k]?=some u∧u.p=qPlan k m.p:=by rcases Fb hk with rfl|rfl|rfl;exact⟨_,rfl,by rw[PM.pY];rfl⟩;exact⟨_,rfl,by rw[PM.pY];rfl⟩;exact⟨_,rfl,by rw[PM.pY];rfl⟩
theorem aml (w:World) (m:PM) (h:Qx 0 [] w m):∃w5,(((((w.alloc (.cells #[.int .i64 2,.string ⟨#[]⟩,.int .i64 1,.slice none 0 0] 47)).alloc (.cells #[.int .i64 m.kind,.string ⟨m.name.toArray⟩,.slice m.ex.A m.ex.l.length m.ex.cap,.slice m.co.A m.co.l.length m.co.cap,.slice m.lf.A m.lf.l.length m.lf.cap,.slice m.rt.A m.rt.l.length m.rt.cap,.slice m.ag.A m.ag.l.length m.ag.cap,.slice m.A m.kids.length m.cap] 32)).alloc (.cells #[.int .i64 m.kind,.string ⟨m.name.toArray⟩,.slice m.ex.A m.ex.l.length m.ex.cap,.slice m.co.A m.co.l.length m.co.cap,.slice m.lf.A m.lf.l.length m.lf.cap,.slice m.rt.A m.rt.l.length m.rt.cap,.slice m.ag.A m.ag.l.length m.ag.cap,.slice m.A m.kids.length m.cap] 32)).alloc (.cells #[.int .i64 m.kind,.string ⟨m.name.toArray⟩,.slice m.ex.A m.ex.l.length m.ex.cap,.slice m.co.A m.co.l.length m.co.cap,.slice m.lf.A m.lf.l.length m.lf.cap,.slice m.rt.A m.rt.l.length m.rt.cap,.slice m.ag.A m.ag.l.length m.ag.cap,.slice m.A m.kids.length m.cap,.int .i64 m.kind,.string ⟨m.name.toArray⟩,.slice m.ex.A m.ex.l.length m.ex.cap,.slice m.co.A m.co.l.length m.co.cap,.slice m.lf.A m.lf.l.length m.lf.cap,.slice m.rt.A m.rt.l.length m.rt.cap,.slice m.ag.A m.ag.l.length m.ag.cap,.slice m.A m.kids.length m.cap] 32)).alloc (.cells #[.int .i64 2,.string ⟨#[]⟩,.slice (some ⟨w.heap.size,0,none⟩) 1 1,.slice none 0 0,.slice none 0 0,.slice none 0 0,.slice none 0 0,.slice (some ⟨w.heap.size+1,0,none⟩) 1 1,.int .i64 6,.string ⟨#[]⟩,.slice none 0 0,.slice none 0 0,.slice none 0 0,.slice none 0 0,.slice none 0 0,.slice (some ⟨w.heap.size+2,0,none⟩) 1 1,.int .i64 5,.string ⟨#[]⟩,.slice none 0 0,.slice none 0 0,.slice none 0 0,.slice none 0 0,.slice none 0 0,.slice (some ⟨w.heap.size+3,0,none⟩) 2 2] 32))=w5∧Ev w w5∧Ps w5 (some ⟨w.heap.size+4,0,none⟩) 3 3 (qL w.heap.size m)∧w.heap.size+4<w5.heap.size∧∀u∈qL w.heap.size m,Qx 0 [] w5 u:=by
 have E1:=Ev.alloc w (.cells #[.int .i64 2,.string ⟨#[]⟩,.int .i64 1,.slice none 0 0] 47);have E2:=Ev.alloc (w.alloc (.cells #[.int .i64 2,.string ⟨#[]⟩,.int .i64 1,.slice none 0 0] 47)) (.cells #[.int .i64 m.kind,.string ⟨m.name.toArray⟩,.slice m.ex.A m.ex.l.length m.ex.cap,.slice m.co.A m.co.l.length m.co.cap,.slice m.lf.A m.lf.l.length m.lf.cap,.slice m.rt.A m.rt.l.length m.rt.cap,.slice m.ag.A m.ag.l.length m.ag.cap,.slice m.A m.kids.length m.cap] 32);have E3:=Ev.alloc ((w.alloc (.cells #[.int .i64 2,.string ⟨#[]⟩,.int .i64 1,.slice none 0 0] 47)).alloc (.cells #[.int .i64 m.kind,.string ⟨m.name.toArray⟩,.slice m.ex.A m.ex.l.length m.ex.cap,.slice m.co.A m.co.l.length m.co.cap,.slice m.lf.A m.lf.l.length m.lf.cap,.slice m.rt.A m.rt.l.length m.rt.cap,.slice m.ag.A m.ag.l.length m.ag.cap,.slice m.A m.kids.length m.cap] 32)) (.cells #[.int .i64 m.kind,.string ⟨m.name.toArray⟩,.slice m.ex.A m.ex.l.length m.ex.cap,.slice m.co.A m.co.l.length m.co.cap,.slice m.lf.A m.lf.l.length m.lf.cap,.slice m.rt.A m.rt.l.length m.rt.cap,.slice m.ag.A m.ag.l.length m.ag.cap,.slice m.A m.kids.length m.cap] 32)
 have E4:=Ev.alloc (((w.alloc (.cells #[.int .i64 2,.string ⟨#[]⟩,.int .i64 1,.slice none 0 0] 47)).alloc (.cells #[.int .i64 m.kind,.string ⟨m.name.toArray⟩,.slice m.ex.A m.ex.l.length m.ex.cap,.slice m.co.A m.co.l.length m.co.cap,.slice m.lf.A m.lf.l.length m.lf.cap,.slice m.rt.A m.rt.l.length m.rt.cap,.slice m.ag.A m.ag.l.length m.ag.cap,.slice m.A m.kids.length m.cap] 32)).alloc (.cells #[.int .i64 m.kind,.string ⟨m.name.toArray⟩,.slice m.ex.A m.ex.l.length m.ex.cap,.slice m.co.A m.co.l.length m.co.cap,.slice m.lf.A m.lf.l.length m.lf.cap,.slice m.rt.A m.rt.l.length m.rt.cap,.slice m.ag.A m.ag.l.length m.ag.cap,.slice m.A m.kids.length m.cap] 32)) (.cells #[.int .i64 m.kind,.string ⟨m.name.toArray⟩,.slice m.ex.A m.ex.l.length m.ex.cap,.slice m.co.A m.co.l.length m.co.cap,.slice m.lf.A m.lf.l.length m.lf.cap,.slice m.rt.A m.rt.l.length m.rt.cap,.slice m.ag.A m.ag.l.length m.ag.cap,.slice m.A m.kids.length m.cap,.int .i64 m.kind,.string ⟨m.name.toArray⟩,.slice m.ex.A m.ex.l.length m.ex.cap,.slice m.co.A m.co.l.length m.co.cap,.slice m.lf.A m.lf.l.length m.lf.cap,.slice m.rt.A m.rt.l.length m.rt.cap,.slice m.ag.A m.ag.l.length m.ag.cap,.slice m.A m.kids.length m.cap] 32)
 have E5:=Ev.alloc ((((w.alloc (.cells #[.int .i64 2,.string ⟨#[]⟩,.int .i64 1,.slice none 0 0] 47)).alloc (.cells #[.int .i64 m.kind,.string ⟨m.name.toArray⟩,.slice m.ex.A m.ex.l.length m.ex.cap,.slice m.co.A m.co.l.length m.co.cap,.slice m.lf.A m.lf.l.length m.lf.cap,.slice m.rt.A m.rt.l.length m.rt.cap,.slice m.ag.A m.ag.l.length m.ag.cap,.slice m.A m.kids.length m.cap] 32)).alloc (.cells #[.int .i64 m.kind,.string ⟨m.name.toArray⟩,.slice m.ex.A m.ex.l.length m.ex.cap,.slice m.co.A m.co.l.length m.co.cap,.slice m.lf.A m.lf.l.length m.lf.cap,.slice m.rt.A m.rt.l.length m.rt.cap,.slice m.ag.A m.ag.l.length m.ag.cap,.slice m.A m.kids.length m.cap] 32)).alloc (.cells #[.int .i64 m.kind,.string ⟨m.name.toArray⟩,.slice m.ex.A m.ex.l.length m.ex.cap,.slice m.co.A m.co.l.length m.co.cap,.slice m.lf.A m.lf.l.length m.lf.cap,.slice m.rt.A m.rt.l.length m.rt.cap,.slice m.ag.A m.ag.l.length m.ag.cap,.slice m.A m.kids.length m.cap,.int .i64 m.kind,.string ⟨m.name.toArray⟩,.slice m.ex.A m.ex.l.length m.ex.cap,.slice m.co.A m.co.l.length m.co.cap,.slice m.lf.A m.lf.l.length m.lf.cap,.slice m.rt.A m.rt.l.length m.rt.cap,.slice m.ag.A m.ag.l.length m.ag.cap,.slice m.A m.kids.length m.cap] 32)) (.cells #[.int .i64 2,.string ⟨#[]⟩,.slice (some ⟨w.heap.size,0,none⟩) 1 1,.slice none 0 0,.slice none 0 0,.slice none 0 0,.slice none 0 0,.slice (some ⟨w.heap.size+1,0,none⟩) 1 1,.int .i64 6,.string ⟨#[]⟩,.slice none 0 0,.slice none 0 0,.slice none 0 0,.slice none 0 0,.slice none 0 0,.slice (some ⟨w.heap.size+2,0,none⟩) 1 1,.int .i64 5,.string ⟨#[]⟩,.slice none 0 0,.slice none 0 0,.slice none 0 0,.slice none 0 0,.slice none 0 0,.slice (some ⟨w.heap.size+3,0,none⟩) 2 2] 32);have s1:=Sl.made (k:=4) (enc:=ec) (fun _=>rfl) [.mk 2 [] 1 none 0 [] 0] 1 rfl (by decide) w #[.int .i64 2,.string ⟨#[]⟩,.int .i64 1,.slice none 0 0] 47 rfl
 have s2:=Sl.made (k:=8) (enc:=pc) (fun _=>rfl) [m] 1 rfl (by decide) (w.alloc (.cells #[.int .i64 2,.string ⟨#[]⟩,.int .i64 1,.slice none 0 0] 47)) #[.int .i64 m.kind,.string ⟨m.name.toArray⟩,.slice m.ex.A m.ex.l.length m.ex.cap,.slice m.co.A m.co.l.length m.co.cap,.slice m.lf.A m.lf.l.length m.lf.cap,.slice m.rt.A m.rt.l.length m.rt.cap,.slice m.ag.A m.ag.l.length m.ag.cap,.slice m.A m.kids.length m.cap] 32 rfl;have s3:=Sl.made (k:=8) (enc:=pc) (fun _=>rfl) [m] 1 rfl (by decide) ((w.alloc (.cells #[.int .i64 2,.string ⟨#[]⟩,.int .i64 1,.slice none 0 0] 47)).alloc (.cells #[.int .i64 m.kind,.string ⟨m.name.toArray⟩,.slice m.ex.A m.ex.l.length m.ex.cap,.slice m.co.A m.co.l.length m.co.cap,.slice m.lf.A m.lf.l.length m.lf.cap,.slice m.rt.A m.rt.l.length m.rt.cap,.slice m.ag.A m.ag.l.length m.ag.cap,.slice m.A m.kids.length m.cap] 32)) #[.int .i64 m.kind,.string ⟨m.name.toArray⟩,.slice m.ex.A m.ex.l.length m.ex.cap,.slice m.co.A m.co.l.length m.co.cap,.slice m.lf.A m.lf.l.length m.lf.cap,.slice m.rt.A m.rt.l.length m.rt.cap,.slice m.ag.A m.ag.l.length m.ag.cap,.slice m.A m.kids.length m.cap] 32 rfl
 have s4:=Sl.made (k:=8) (enc:=pc) (fun _=>rfl) [m,m] 2 rfl (by decide) (((w.alloc (.cells #[.int .i64 2,.string ⟨#[]⟩,.int .i64 1,.slice none 0 0] 47)).alloc (.cells #[.int .i64 m.kind,.string ⟨m.name.toArray⟩,.slice m.ex.A m.ex.l.length m.ex.cap,.slice m.co.A m.co.l.length m.co.cap,.slice m.lf.A m.lf.l.length m.lf.cap,.slice m.rt.A m.rt.l.length m.rt.cap,.slice m.ag.A m.ag.l.length m.ag.cap,.slice m.A m.kids.length m.cap] 32)).alloc (.cells #[.int .i64 m.kind,.string ⟨m.name.toArray⟩,.slice m.ex.A m.ex.l.length m.ex.cap,.slice m.co.A m.co.l.length m.co.cap,.slice m.lf.A m.lf.l.length m.lf.cap,.slice m.rt.A m.rt.l.length m.rt.cap,.slice m.ag.A m.ag.l.length m.ag.cap,.slice m.A m.kids.length m.cap] 32)) #[.int .i64 m.kind,.string ⟨m.name.toArray⟩,.slice m.ex.A m.ex.l.length m.ex.cap,.slice m.co.A m.co.l.length m.co.cap,.slice m.lf.A m.lf.l.length m.lf.cap,.slice m.rt.A m.rt.l.length m.rt.cap,.slice m.ag.A m.ag.l.length m.ag.cap,.slice m.A m.kids.length m.cap,.int .i64 m.kind,.string ⟨m.name.toArray⟩,.slice m.ex.A m.ex.l.length m.ex.cap,.slice m.co.A m.co.l.length m.co.cap,.slice m.lf.A m.lf.l.length m.lf.cap,.slice m.rt.A m.rt.l.length m.rt.cap,.slice m.ag.A m.ag.l.length m.ag.cap,.slice m.A m.kids.length m.cap] 32 rfl
 have s5:=Sl.made (k:=8) (enc:=pc) (fun _=>rfl) (qL w.heap.size m) 3 rfl (by decide) ((((w.alloc (.cells #[.int .i64 2,.string ⟨#[]⟩,.int .i64 1,.slice none 0 0] 47)).alloc (.cells #[.int .i64 m.kind,.string ⟨m.name.toArray⟩,.slice m.ex.A m.ex.l.length m.ex.cap,.slice m.co.A m.co.l.length m.co.cap,.slice m.lf.A m.lf.l.length m.lf.cap,.slice m.rt.A m.rt.l.length m.rt.cap,.slice m.ag.A m.ag.l.length m.ag.cap,.slice m.A m.kids.length m.cap] 32)).alloc (.cells #[.int .i64 m.kind,.string ⟨m.name.toArray⟩,.slice m.ex.A m.ex.l.length m.ex.cap,.slice m.co.A m.co.l.length m.co.cap,.slice m.lf.A m.lf.l.length m.lf.cap,.slice m.rt.A m.rt.l.length m.rt.cap,.slice m.ag.A m.ag.l.length m.ag.cap,.slice m.A m.kids.length m.cap] 32)).alloc (.cells #[.int .i64 m.kind,.string ⟨m.name.toArray⟩,.slice m.ex.A m.ex.l.length m.ex.cap,.slice m.co.A m.co.l.length m.co.cap,.slice m.lf.A m.lf.l.length m.lf.cap,.slice m.rt.A m.rt.l.length m.rt.cap,.slice m.ag.A m.ag.l.length m.ag.cap,.slice m.A m.kids.length m.cap,.int .i64 m.kind,.string ⟨m.name.toArray⟩,.slice m.ex.A m.ex.l.length m.ex.cap,.slice m.co.A m.co.l.length m.co.cap,.slice m.lf.A m.lf.l.length m.lf.cap,.slice m.rt.A m.rt.l.length m.rt.cap,.slice m.ag.A m.ag.l.length m.ag.cap,.slice m.A m.kids.length m.cap] 32)) #[.int .i64 2,.string ⟨#[]⟩,.slice (some ⟨w.heap.size,0,none⟩) 1 1,.slice none 0 0,.slice none 0 0,.slice none 0 0,.slice none 0 0,.slice (some ⟨w.heap.size+1,0,none⟩) 1 1,.int .i64 6,.string ⟨#[]⟩,.slice none 0 0,.slice none 0 0,.slice none 0 0,.slice none 0 0,.slice none 0 0,.slice (some ⟨w.heap.size+2,0,none⟩) 1 1,.int .i64 5,.string ⟨#[]⟩,.slice none 0 0,.slice none 0 0,.slice none 0 0,.slice none 0 0,.slice none 0 0,.slice (some ⟨w.heap.size+3,0,none⟩) 2 2] 32 rfl;have z1:(w.alloc (.cells #[.int .i64 2,.string ⟨#[]⟩,.int .i64 1,.slice none 0 0] 47)).heap.size=w.heap.size+1:=by simp
 have z2:((w.alloc (.cells #[.int .i64 2,.string ⟨#[]⟩,.int .i64 1,.slice none 0 0] 47)).alloc (.cells #[.int .i64 m.kind,.string ⟨m.name.toArray⟩,.slice m.ex.A m.ex.l.length m.ex.cap,.slice m.co.A m.co.l.length m.co.cap,.slice m.lf.A m.lf.l.length m.lf.cap,.slice m.rt.A m.rt.l.length m.rt.cap,.slice m.ag.A m.ag.l.length m.ag.cap,.slice m.A m.kids.length m.cap] 32)).heap.size=w.heap.size+2:=by simp
 have z3:(((w.alloc (.cells #[.int .i64 2,.string ⟨#[]⟩,.int .i64 1,.slice none 0 0] 47)).alloc (.cells #[.int .i64 m.kind,.string ⟨m.name.toArray⟩,.slice m.ex.A m.ex.l.length m.ex.cap,.slice m.co.A m.co.l.length m.co.cap,.slice m.lf.A m.lf.l.length m.lf.cap,.slice m.rt.A m.rt.l.length m.rt.cap,.slice m.ag.A m.ag.l.length m.ag.cap,.slice m.A m.kids.length m.cap] 32)).alloc (.cells #[.int .i64 m.kind,.string ⟨m.name.toArray⟩,.slice m.ex.A m.ex.l.length m.ex.cap,.slice m.co.A m.co.l.length m.co.cap,.slice m.lf.A m.lf.l.length m.lf.cap,.slice m.rt.A m.rt.l.length m.rt.cap,.slice m.ag.A m.ag.l.length m.ag.cap,.slice m.A m.kids.length m.cap] 32)).heap.size=w.heap.size+3:=by simp
 have z4:((((w.alloc (.cells #[.int .i64 2,.string ⟨#[]⟩,.int .i64 1,.slice none 0 0] 47)).alloc (.cells #[.int .i64 m.kind,.string ⟨m.name.toArray⟩,.slice m.ex.A m.ex.l.length m.ex.cap,.slice m.co.A m.co.l.length m.co.cap,.slice m.lf.A m.lf.l.length m.lf.cap,.slice m.rt.A m.rt.l.length m.rt.cap,.slice m.ag.A m.ag.l.length m.ag.cap,.slice m.A m.kids.length m.cap] 32)).alloc (.cells #[.int .i64 m.kind,.string ⟨m.name.toArray⟩,.slice m.ex.A m.ex.l.length m.ex.cap,.slice m.co.A m.co.l.length m.co.cap,.slice m.lf.A m.lf.l.length m.lf.cap,.slice m.rt.A m.rt.l.length m.rt.cap,.slice m.ag.A m.ag.l.length m.ag.cap,.slice m.A m.kids.length m.cap] 32)).alloc (.cells #[.int .i64 m.kind,.string ⟨m.name.toArray⟩,.slice m.ex.A m.ex.l.length m.ex.cap,.slice m.co.A m.co.l.length m.co.cap,.slice m.lf.A m.lf.l.length m.lf.cap,.slice m.rt.A m.rt.l.length m.rt.cap,.slice m.ag.A m.ag.l.length m.ag.cap,.slice m.A m.kids.length m.cap,.int .i64 m.kind,.string ⟨m.name.toArray⟩,.slice m.ex.A m.ex.l.length m.ex.cap,.slice m.co.A m.co.l.length m.co.cap,.slice m.lf.A m.lf.l.length m.lf.cap,.slice m.rt.A m.rt.l.length m.rt.cap,.slice m.ag.A m.ag.l.length m.ag.cap,.slice m.A m.kids.length m.cap] 32)).heap.size=w.heap.size+4:=by simp
 have z5:(((((w.alloc (.cells #[.int .i64 2,.string ⟨#[]⟩,.int .i64 1,.slice none 0 0] 47)).alloc (.cells #[.int .i64 m.kind,.string ⟨m.name.toArray⟩,.slice m.ex.A m.ex.l.length m.ex.cap,.slice m.co.A m.co.l.length m.co.cap,.slice m.lf.A m.lf.l.length m.lf.cap,.slice m.rt.A m.rt.l.length m.rt.cap,.slice m.ag.A m.ag.l.length m.ag.cap,.slice m.A m.kids.length m.cap] 32)).alloc (.cells #[.int .i64 m.kind,.string ⟨m.name.toArray⟩,.slice m.ex.A m.ex.l.length m.ex.cap,.slice m.co.A m.co.l.length m.co.cap,.slice m.lf.A m.lf.l.length m.lf.cap,.slice m.rt.A m.rt.l.length m.rt.cap,.slice m.ag.A m.ag.l.length m.ag.cap,.slice m.A m.kids.length m.cap] 32)).alloc (.cells #[.int .i64 m.kind,.string ⟨m.name.toArray⟩,.slice m.ex.A m.ex.l.length m.ex.cap,.slice m.co.A m.co.l.length m.co.cap,.slice m.lf.A m.lf.l.length m.lf.cap,.slice m.rt.A m.rt.l.length m.rt.cap,.slice m.ag.A m.ag.l.length m.ag.cap,.slice m.A m.kids.length m.cap,.int .i64 m.kind,.string ⟨m.name.toArray⟩,.slice m.ex.A m.ex.l.length m.ex.cap,.slice m.co.A m.co.l.length m.co.cap,.slice m.lf.A m.lf.l.length m.lf.cap,.slice m.rt.A m.rt.l.length m.rt.cap,.slice m.ag.A m.ag.l.length m.ag.cap,.slice m.A m.kids.length m.cap] 32)).alloc (.cells #[.int .i64 2,.string ⟨#[]⟩,.slice (some ⟨w.heap.size,0,none⟩) 1 1,.slice none 0 0,.slice none 0 0,.slice none 0 0,.slice none 0 0,.slice (some ⟨w.heap.size+1,0,none⟩) 1 1,.int .i64 6,.string ⟨#[]⟩,.slice none 0 0,.slice none 0 0,.slice none 0 0,.slice none 0 0,.slice none 0 0,.slice (some ⟨w.heap.size+2,0,none⟩) 1 1,.int .i64 5,.string ⟨#[]⟩,.slice none 0 0,.slice none 0 0,.slice none 0 0,.slice none 0 0,.slice none 0 0,.slice (some ⟨w.heap.size+3,0,none⟩) 2 2] 32)).heap.size=w.heap.size+5:=by simp
 rw[z1]at s2;rw[z2]at s3;rw[z3]at s4;rw[z4]at s5;generalize (((((w.alloc (.cells #[.int .i64 2,.string ⟨#[]⟩,.int .i64 1,.slice none 0 0] 47)).alloc (.cells #[.int .i64 m.kind,.string ⟨m.name.toArray⟩,.slice m.ex.A m.ex.l.length m.ex.cap,.slice m.co.A m.co.l.length m.co.cap,.slice m.lf.A m.lf.l.length m.lf.cap,.slice m.rt.A m.rt.l.length m.rt.cap,.slice m.ag.A m.ag.l.length m.ag.cap,.slice m.A m.kids.length m.cap] 32)).alloc (.cells #[.int .i64 m.kind,.string ⟨m.name.toArray⟩,.slice m.ex.A m.ex.l.length m.ex.cap,.slice m.co.A m.co.l.length m.co.cap,.slice m.lf.A m.lf.l.length m.lf.cap,.slice m.rt.A m.rt.l.length m.rt.cap,.slice m.ag.A m.ag.l.length m.ag.cap,.slice m.A m.kids.length m.cap] 32)).alloc (.cells #[.int .i64 m.kind,.string ⟨m.name.toArray⟩,.slice m.ex.A m.ex.l.length m.ex.cap,.slice m.co.A m.co.l.length m.co.cap,.slice m.lf.A m.lf.l.length m.lf.cap,.slice m.rt.A m.rt.l.length m.rt.cap,.slice m.ag.A m.ag.l.length m.ag.cap,.slice m.A m.kids.length m.cap,.int .i64 m.kind,.string ⟨m.name.toArray⟩,.slice m.ex.A m.ex.l.length m.ex.cap,.slice m.co.A m.co.l.length m.co.cap,.slice m.lf.A m.lf.l.length m.lf.cap,.slice m.rt.A m.rt.l.length m.rt.cap,.slice m.ag.A m.ag.l.length m.ag.cap,.slice m.A m.kids.length m.cap] 32)).alloc (.cells #[.int .i64 2,.string ⟨#[]⟩,.slice (some ⟨w.heap.size,0,none⟩) 1 1,.slice none 0 0,.slice none 0 0,.slice none 0 0,.slice none 0 0,.slice (some ⟨w.heap.size+1,0,none⟩) 1 1,.int .i64 6,.string ⟨#[]⟩,.slice none 0 0,.slice none 0 0,.slice none 0 0,.slice none 0 0,.slice none 0 0,.slice (some ⟨w.heap.size+2,0,none⟩) 1 1,.int .i64 5,.string ⟨#[]⟩,.slice none 0 0,.slice none 0 0,.slice none 0 0,.slice none 0 0,.slice none 0 0,.slice (some ⟨w.heap.size+3,0,none⟩) 2 2] 32))=w5 at*
 generalize ((((w.alloc (.cells #[.int .i64 2,.string ⟨#[]⟩,.int .i64 1,.slice none 0 0] 47)).alloc (.cells #[.int .i64 m.kind,.string ⟨m.name.toArray⟩,.slice m.ex.A m.ex.l.length m.ex.cap,.slice m.co.A m.co.l.length m.co.cap,.slice m.lf.A m.lf.l.length m.lf.cap,.slice m.rt.A m.rt.l.length m.rt.cap,.slice m.ag.A m.ag.l.length m.ag.cap,.slice m.A m.kids.length m.cap] 32)).alloc (.cells #[.int .i64 m.kind,.string ⟨m.name.toArray⟩,.slice m.ex.A m.ex.l.length m.ex.cap,.slice m.co.A m.co.l.length m.co.cap,.slice m.lf.A m.lf.l.length m.lf.cap,.slice m.rt.A m.rt.l.length m.rt.cap,.slice m.ag.A m.ag.l.length m.ag.cap,.slice m.A m.kids.length m.cap] 32)).alloc (.cells #[.int .i64 m.kind,.string ⟨m.name.toArray⟩,.slice m.ex.A m.ex.l.length m.ex.cap,.slice m.co.A m.co.l.length m.co.cap,.slice m.lf.A m.lf.l.length m.lf.cap,.slice m.rt.A m.rt.l.length m.rt.cap,.slice m.ag.A m.ag.l.length m.ag.cap,.slice m.A m.kids.length m.cap,.int .i64 m.kind,.string ⟨m.name.toArray⟩,.slice m.ex.A m.ex.l.length m.ex.cap,.slice m.co.A m.co.l.length m.co.cap,.slice m.lf.A m.lf.l.length m.lf.cap,.slice m.rt.A m.rt.l.length m.rt.cap,.slice m.ag.A m.ag.l.length m.ag.cap,.slice m.A m.kids.length m.cap] 32))=w4 at*;generalize (((w.alloc (.cells #[.int .i64 2,.string ⟨#[]⟩,.int .i64 1,.slice none 0 0] 47)).alloc (.cells #[.int .i64 m.kind,.string ⟨m.name.toArray⟩,.slice m.ex.A m.ex.l.length m.ex.cap,.slice m.co.A m.co.l.length m.co.cap,.slice m.lf.A m.lf.l.length m.lf.cap,.slice m.rt.A m.rt.l.length m.rt.cap,.slice m.ag.A m.ag.l.length m.ag.cap,.slice m.A m.kids.length m.cap] 32)).alloc (.cells #[.int .i64 m.kind,.string ⟨m.name.toArray⟩,.slice m.ex.A m.ex.l.length m.ex.cap,.slice m.co.A m.co.l.length m.co.cap,.slice m.lf.A m.lf.l.length m.lf.cap,.slice m.rt.A m.rt.l.length m.rt.cap,.slice m.ag.A m.ag.l.length m.ag.cap,.slice m.A m.kids.length m.cap] 32))=w3 at*
 generalize ((w.alloc (.cells #[.int .i64 2,.string ⟨#[]⟩,.int .i64 1,.slice none 0 0] 47)).alloc (.cells #[.int .i64 m.kind,.string ⟨m.name.toArray⟩,.slice m.ex.A m.ex.l.length m.ex.cap,.slice m.co.A m.co.l.length m.co.cap,.slice m.lf.A m.lf.l.length m.lf.cap,.slice m.rt.A m.rt.l.length m.rt.cap,.slice m.ag.A m.ag.l.length m.ag.cap,.slice m.A m.kids.length m.cap] 32))=w2 at*;generalize (w.alloc (.cells #[.int .i64 2,.string ⟨#[]⟩,.int .i64 1,.slice none 0 0] 47))=w1 at*;have s1:=(((s1.ev E2).ev E3).ev E4).ev E5;have s2:=((s2.ev E3).ev E4).ev E5;have s3:=(s3.ev E4).ev E5;have s4:=s4.ev E5;have hQ:Qx 0 [] w5 m:=h.ev ((((E1.trans E2).trans E3).trans E4).trans E5);have rg:∀i,i<5→QI 0 [] w5 (some ⟨w.heap.size+i,0,none⟩):=fun i hi ad e=>by
  injection e with e
  subst e;exact⟨atG _,by show w.heap.size+i<_;omega,by simp⟩
 refine⟨w5,rfl,(((E1.trans E2).trans E3).trans E4).trans E5,s5,by omega,fun u hu=>?_⟩;unfold qL at hu;simp only[atA,atY,or_false]at hu;rcases hu with rfl|rfl|rfl;refine .mk ⟨s1,rg 0 (by omega)⟩ (fun e he=>?_) (aX.nil ..) (aX.nil ..) (aX.nil ..) (aX.nil ..) ⟨s2,rg 1 (by omega)⟩ (fun k hk=>?_);simp only[atA,atY,or_false]at he;subst he;exact .mk (Sl.nil_ _) (fun _ e=>by cases e) (fun _ e=>by cases e);simp only[atA,atY,or_false]at hk;subst hk;exact hQ;refine .mk (aX.nil ..) (fun _ h=>by cases h) (aX.nil ..) (aX.nil ..) (aX.nil ..) (aX.nil ..) ⟨s3,rg 2 (by omega)⟩ (fun k hk=>?_);simp only[atA,atY,or_false]at hk;subst hk;exact hQ;refine .mk (aX.nil ..) (fun _ h=>by cases h) (aX.nil ..) (aX.nil ..) (aX.nil ..) (aX.nil ..) ⟨s4,rg 3 (by omega)⟩ (fun k hk=>?_);simp only[atA,atY,or_false]at hk;rcases hk with rfl|rfl<;>exact hQ
def Ad (b:Nat) (l:List C) (y:Int) (s:ByteArray) (v:Value) (w:World):Prop:=∃x,v=.tuple #[x,.int .i64 y,.string s]∧Ow 50 2 eP b w x l
theorem Ad.mono (b:Nat) (l:List C) (y:Int) (s:ByteArray):rF (Ad b l y s):=fun v w w' hE ⟨x,e,h⟩=>⟨x,e,h.ev hE⟩
def DR (b:Nat) (l:List C) (v:Value) (w:World):Prop:=Ow 50 2 eP b w v l
theorem DR.mono (b:Nat) (l:List C):rF (DR b l):=fun v w w' hE h=>h.ev hE
theorem DR.form {b:Nat} {l:List C} {v:Value} {w:World} (h:DR b l v w):∃A cap,v=.slice A l.length cap∧Cs w A l.length cap l:=by obtain⟨A,cap,hv,hS,_⟩:=Ow.form nM h;exact⟨A,cap,hv,hS⟩
theorem Vp (s:By):((KF s).2.1≠0∧(KF s).1=[])∨((KF s).2.1=0∧WrP (dJ s).1∧(ckOf EX (dJ s).1).why=0∧(KF s).1=(ckOf EX (dJ s).1).cols∧yx (KF s).1=0):=by unfold KF;by_cases h0:(dJ s).2.1=0;rw[if_pos h0];have hW:=KD s h0;rw[hW.JZ];by_cases hw:(ckOf EX (dJ s).1).why=0;rw[if_pos hw];obtain⟨h1,h2,h3⟩:=KH X9 _ hW.wr.good hw;exact .inr ⟨rfl,hW,hw,rfl,h1.right h2 h3⟩;rw[if_neg hw];exact .inl ⟨hw,rfl⟩;rw[if_neg h0];exact .inl ⟨by decide,rfl⟩
end Go.Proofs.YtpbfokkocaemlaaGreatDoor
