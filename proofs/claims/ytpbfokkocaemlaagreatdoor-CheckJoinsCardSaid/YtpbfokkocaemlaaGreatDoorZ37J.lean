import Derived.Test.YtpbfokkocaemlaaGreatDoorZ36J
import Derived.Test.YtpbfokkocaemlaaGreatDoorZ35J
set_option linter.unusedVariables false
set_option maxRecDepth 100000
set_option maxHeartbeats 64000000
namespace Go.Proofs
open Go.Shelf
def Tryz.bitsLen_ren : Go.Shelf.Ren := ⟨fun | 125 => 94 | 128 => 135 | 129 => 136 | n => n, fun | 46 => 142 | 3 => 3 | 51 => 190 | 53 => 192 | 4 => 4 | 5 => 5 | 9 => 9 | n => n, fun | n => n⟩
theorem Tryz.bitsLen : Go.Proofs.Lays.n125 Tryz.prog Tryz.bitsLen_ren := {
  mixed := by kernel_rfl
  f125 := Tryz.func94.trans (congrArg some (by kernel_rfl))
  f128 := Tryz.func135.trans (congrArg some (by kernel_rfl))
  f129 := Tryz.func136.trans (congrArg some (by kernel_rfl))
  t3 := Tryz.underlying3
  a3 := Tryz.isAgg3
  z3 := Tryz.sizeOf3
  v3 := Tryz.zeroValue3
  t4 := Tryz.underlying4
  a4 := Tryz.isAgg4
  z4 := Tryz.sizeOf4
  v4 := Tryz.zeroValue4
  t5 := Tryz.underlying5
  a5 := Tryz.isAgg5
  z5 := Tryz.sizeOf5
  v5 := Tryz.zeroValue5
  t9 := Tryz.underlying9
  a9 := Tryz.isAgg9
  z9 := Tryz.sizeOf9
  v9 := Tryz.zeroValue9
  t46 := Tryz.underlying142
  a46 := Tryz.isAgg142
  z46 := Tryz.sizeOf142
  v46 := Tryz.zeroValue142
  t51 := Tryz.underlying190
  a51 := Tryz.isAgg190
  z51 := Tryz.sizeOf190
  v51 := Tryz.zeroValue190
  t53 := Tryz.underlying192
  a53 := Tryz.isAgg192
  z53 := Tryz.sizeOf192
  v53 := Tryz.zeroValue192 }
end Go.Proofs
namespace Go.Proofs.YtpbfokkocaemlaaGreatDoor
open Go.RowKit
open Go.Lib renaming hid → zq
open Go renaming World → ak
open Go renaming Value → au
open Go.Proofs.Tryz renaming prog → ax
open Go.Proofs.Tryz

theorem abS (n : Nat) (w : World) (h : n ≤ 1000) : Calls Tryz.prog 94 #[.int .u64 (n : Int)] w fun e w' => e = .returned (.int .i64 (Lib.bitLen n : Nat)) ∧ w' = w := by
  have := Go.Proofs.Any.bits_Len Tryz.bitsLen (n : Int) w (by omega) (by omega)
  exact this
theorem ad6 (go gb : Nat) (r lim : Int) (w : World) (hO : Bx 3 go #[.int .i64 0, .int .i64 1] w) (hr0 : 0 ≤ r) (hC : ∀ w1, Ev w w1 → Calls Tryz.prog 49 #[.int .i64 1, .int .i64 0, .pointer (some ⟨gb, 0, none⟩)] w1 fun e w' => e = .returned (.int .i64 r) ∧ Ev w1 w') :
    Calls Tryz.prog 93 #[.slice (some ⟨go, 0, none⟩) 2 2, .int .i64 0, .int .i64 2, .int .i64 lim, .func (.func 49) #[] #[.pointer (some ⟨gb, 0, none⟩)]] w fun e w' => e = .returned (.tuple #[]) ∧ Ev w w' := by
  have HI := zq (ad5 go gb r w hO hr0 hC)
  clear hO hC
  go_enter Tryz.func93, Tryz.ntmps93
  go_wp2
  refine wp_loop_rounds 1 ?_
  rw [rounds_succ]
  go_wp2_with ((with_reducible refine (HI.out).mono ?_); rintro e w1 ⟨rfl, aK⟩)
  (try simp only [Exit.inBlock, Exit.then])
  refine bodyPost_ret (results_none rfl _ _ _) rfl ?_
  exact ⟨rfl, aK⟩
theorem abT (go gb : Nat) (r : Int) (w : World) (hO : Bx 3 go #[.int .i64 0, .int .i64 1] w) (hr0 : 0 ≤ r) (hC : ∀ w1, Ev w w1 → Calls Tryz.prog 49 #[.int .i64 1, .int .i64 0, .pointer (some ⟨gb, 0, none⟩)] w1 fun e w' => e = .returned (.int .i64 r) ∧ Ev w1 w') :
    Calls Tryz.prog 48 #[.slice (some ⟨go, 0, none⟩) 2 2, .func (.func 49) #[] #[.pointer (some ⟨gb, 0, none⟩)]] w fun e w' => e = .returned (.tuple #[]) ∧ Ev w w' := by
  have HP := zq (fun lim => ad6 go gb r lim w hO hr0 hC)
  have HL : Hid (∀ w1, Calls Tryz.prog 94 #[.int .u64 2] w1 fun e w' => ∃ k : Int, e = .returned (.int .i64 k) ∧ w' = w1) := zq fun w1 => (abS 2 w1 (by omega)).mono fun e w' h => ⟨_, h.1, h.2⟩
  clear hO hC
  go_enter Tryz.func48, Tryz.ntmps48
  go_wp2_with (first
    | ((with_reducible refine (HL.out _).mono ?_); rintro e w1 ⟨k, rfl, rfl⟩)
    | ((with_reducible refine (HP.out _).mono ?_); rintro e w1 ⟨rfl, aK⟩))
  go_end0
  exact ⟨rfl, aK⟩
theorem ajO(w:ak)(v:au):∃w0,w.alloc (.cells #[v] 34)=w0/\Ev w w0/\Bx 34 w.heap.size #[v] w0/\w0.heap.size=w.heap.size+1:=⟨_,rfl,Ev.alloc _ _,Bx.new _ _ _,aj⟩
theorem Tryz.abU:(Tryz.prog.info? 3).map (λi=>(i.zero,i.size,i.bytes))=some (some (.int .i64 0),1,8):=ah
theorem ag0(u:ak):(Instr.makeSlice 88 (.int .i64 2) (.int .i64 2)).run ax u=.ok (.slice ↑u.heap.size 2 2) (u.alloc (.cells #[.int .i64 0,.int .i64 0] 3)):=by obtain⟨i0,hi,hz0,hz1,hz2⟩:=info_parts Tryz.abU;have h:=run_make (P:=ax) u 88 3 i0 _ underlying88 hi hz0 .i64 .i64 2 2 ae (Int.le_refl _) (by rw[hz2];omega) ae;rw[hz1,show madeCells (Value.int .i64 0).cells (Int.toNat 2*1)=#[.int .i64 0,.int .i64 0] by kernel_rfl]at h;exact h
theorem ad7(bd:Nat)(d0 d1:DM)(w:ak)(h:Kv w ↑bd 2 2 [d0,d1])(hn:(d1.name==d0.name)=false)(hc:0<=ad3 d1 d0 1 0):
  Calls ax 25 #[.slice ↑bd 2 2] w λe w'=>e=.returned (.int .i64 2)/\Ev w w':=by
 have fD:Tryz.prog.follows .mixedOrders=true:=ah;have hmf:∀(fn:Fn) (first cap:Array au) (w:ak),(Instr.makeFunc fn first cap).run ax w=.ok (.func fn first cap) w:=λ_ _ _ _=>rfl;obtain⟨w0,hw0,aW,hBx,hs0⟩:=ajO w (.slice ↑bd 2 2);have HB:=zq hBx;have hl0:w0.cell? ⟨w.heap.size,0,none⟩=some (.slice ↑bd 2 2):=hBx.cell 0;have HC:=zq (λw1 (hE:Ev w0 w1)=>ad4 w.heap.size bd 0 2 2 [d0,d1] 1 0 d1 d0 w1 (hBx.ev hE) (h.ev (aW.trans hE)) rfl rfl);have dM:=zq aW;have hB1:=Bx.new 3 #[.int .i64 0,.int .i64 0] w0;obtain⟨⟨o0,o1⟩,z0,z1⟩:=hB1.two;have hmk:=ag0 w0;have HN:Hid (∀w1,Ev w0 w1->bd<w1.heap.size/\w1.cell? ⟨bd,0,none⟩=some ↑d0.name/\w1.cell? ⟨bd,2,none⟩=some ↑d1.name):=zq λw1 hE=>by
  have h1:=h.ev (aW.trans hE);obtain⟨b,o,e,hbl,c0,_⟩:=h1.cell (i:=0) (d:=d0) rfl;obtain⟨b',o',e',_,c1,_⟩:=h1.cell (i:=1) (d:=d1) rfl;injection e with e
  injection e with e1 e2 _
  injection e' with e'
  injection e' with e3 e4 _
  subst e1 e2 e3 e4;exact⟨hbl,c0,c1⟩
 clear hBx h aW hB1;go_enter func25,ntmps25;go_wp2;refine wp_loop_rounds 3 ?_;rw[rounds_succ];go_wp2;rw[rounds_succ];go_wp2;rw[rounds_succ];go_upto_region 7 with fail
 obtain⟨w5,VD⟩:∃w5,w5=w0.alloc (.cells #[.int .i64 0,.int .i64 1] 3):=⟨_,rfl⟩
 rw[<-VD];have TY:=Bx.new 3 #[.int .i64 0,.int .i64 1] w0;rw[<-VD,hs0]at TY;have Il:Ev w0 w5:=by rw[VD];exact Ev.alloc _ _
 have Jc:=zq Il;have HS:=zq (abT (w.heap.size+1) w.heap.size _ w5 TY hc λw1 hE=>HC.out w1 (Il.trans hE));have OW:=zq TY;clear VD TY Il o0 o1 z0 z1 hmk hw0;have hg5:=OW.out.lt;have l5:=(Jc.out.cell (p:=⟨w.heap.size,0,none⟩) (show w.heap.size<w0.heap.size by omega)).trans hl0;clear hl0
 go_wp2_with ((with_reducible refine(HS.out).mono ?_);rintro e w6 ⟨rfl,nS⟩;have HE6:=zq (Jc.out.trans nS);have hl6:w6.cell? ⟨w.heap.size,0,none⟩=some (.slice ↑bd 2 2):=(HB.out.ev (Jc.out.trans nS)).cell 0;obtain⟨⟨o0,o1⟩,_⟩:=(OW.out.ev nS).two;obtain⟨hbl,n0,n1⟩:=HN.out w6 (Jc.out.trans nS);clear nS l5)
 refine wp_loop_rounds 2 ?_;rw[rounds_succ];go_upto_region 12 with fail
 go_quiet (fail)
 go_wp2;rw[rounds_succ];go_wp2;go_ret;exact⟨rfl,(dM.out.trans HE6.out).trans (Ev.drewN w6 nq)⟩
def tuD(g:Nat):List DM:=[⟨[116],some ⟨g,0,none⟩,3,ng⟩,⟨[117],some ⟨g+1,0,none⟩,2,uf⟩]
def H9:List Df:=[([116],ng),([117],uf)]
theorem ag1(g:Nat):(tuD g).map DM.df=H9:=rfl
def yx(v:au)(w:ak):Prop:=∃g,v=.slice (some ⟨g+2,0,none⟩) 2 2/\Kv w (some ⟨g+2,0,none⟩) 2 2 (tuD g)
theorem yx.mono:o8 yx:=λv w w' hE ⟨g,e,h⟩=>⟨g,e,h.ev hE⟩
theorem sS(w:ak):Calls ax 9 #[] w λe w'=>∃v,e=.returned v/\Ev w w'/\yx v w':=by
 have hT:=Cs.made ng 3 rfl ai w _ rfl;have hU:=Cs.made uf 2 rfl ai (w.alloc (.cells (ng.flatMap dZ).toArray 50)) _ rfl;have hD:=Sl.made (k:=2) (enc:=dc) (λ_=>rfl) (tuD w.heap.size) 2 rfl ai ((w.alloc (.cells (ng.flatMap dZ).toArray 50)).alloc (.cells (uf.flatMap dZ).toArray 50)) _ 42 rfl;have aK:=Ev.alloc w (.cells (ng.flatMap dZ).toArray 50);have bQ:=Ev.alloc (w.alloc (.cells (ng.flatMap dZ).toArray 50)) (.cells (uf.flatMap dZ).toArray 50);have iI:=Ev.alloc ((w.alloc (.cells (ng.flatMap dZ).toArray 50)).alloc (.cells (uf.flatMap dZ).toArray 50)) (.cells ((tuD w.heap.size).flatMap dc).toArray 42);have HF:yx (.slice (some ⟨w.heap.size+2,0,none⟩) 2 2) (((w.alloc (.cells (ng.flatMap dZ).toArray 50)).alloc (.cells (uf.flatMap dZ).toArray 50)).alloc (.cells ((tuD w.heap.size).flatMap dc).toArray 42)):=by refine⟨w.heap.size,rfl,⟨by simpa using hD,λd hd=>?_⟩⟩;unfold tuD at hd;rcases awq.1 hd with rfl|hd;exact(hT.ev bQ).ev iI;simp at hd;subst hd;have h1:=hU.ev iI;rw[show (w.alloc (.cells (ng.flatMap dZ).toArray 50)).heap.size=w.heap.size+1 by simp]at h1;exact h1
 have HF:=zq HF;have HE:=zq ((aK.trans bQ).trans iI);clear hT hU hD aK bQ iI;go_enter func9,ntmps9;go_wp2;go_ret;exact⟨_,rfl,HE.out,HF.out⟩
theorem aoa:y8 ng=0:=by decide+kernel
theorem aob:y8 uf=0:=by decide+kernel
theorem ajP:fK ⟨#[116]⟩=true:=by decide+kernel
theorem ajQ:fK ⟨#[117]⟩=true:=by decide+kernel
theorem ag2(g:Nat):0<=ad3 ⟨[117],some ⟨g+1,0,none⟩,2,uf⟩ ⟨[116],some ⟨g,0,none⟩,3,ng⟩ 1 0:=by show 0<=or2 (Lu ⟨#[117]⟩ ⟨#[116]⟩) (LC ((1:Nat):Int) ((0:Nat):Int));decide+kernel
theorem XU(v:au)(w:ak)(h:yx v w):Calls ax 13 #[v] w λe w'=>e=.returned (.int .i64 0)/\Ev w w':=by
 obtain⟨g,rfl,hD⟩:=h;have HR:=zq (ad7 (g+2) _ _ w hD (by rfl) (ag2 g));have HN:Hid (∀w1,Ev w w1->g+2<w1.heap.size/\w1.cell? ⟨g+2,0,none⟩=some (.string ⟨#[116]⟩)/\w1.cell? ⟨g+2,1,none⟩=some (.slice ↑g 3 3)/\w1.cell? ⟨g+2,2,none⟩=some (.string ⟨#[117]⟩)/\w1.cell? ⟨g+2,3,none⟩=some (.slice (some ⟨g+1,0,none⟩) 2 2)):=zq λw1 hE=>by
  have h1:=hD.ev hE;obtain⟨b,o,e,hbl,c0,c1⟩:=h1.cell (i:=0) (d:=⟨[116],some ⟨g,0,none⟩,3,ng⟩) rfl;obtain⟨b',o',e',_,c2,c3⟩:=h1.cell (i:=1) (d:=⟨[117],some ⟨g+1,0,none⟩,2,uf⟩) rfl;injection e with e
  injection e with e1 e2 _
  injection e' with e'
  injection e' with e3 e4 _
  subst e1 e2 e3 e4;exact⟨hbl,c0,c1,c2,c3⟩
 have HNT:=zq (λw1=>xW ⟨#[116]⟩ w1);have HNU:=zq (λw1=>xW ⟨#[117]⟩ w1);have HCT:Hid (∀w1,Ev w w1->Calls ax 15 #[.slice ↑g 3 3] w1 λe w'=>e=.returned (.int .i64 (y8 ng))/\Ev w1 w'):=zq (λw1 (hE:Ev w w1)=>GX w1 ((hD.cols ⟨[116],some ⟨g,0,none⟩,3,ng⟩ (by simp[tuD])).ev hE));have HCU:Hid (∀w1,Ev w w1->Calls ax 15 #[.slice (some ⟨g+1,0,none⟩) 2 2] w1 λe w'=>e=.returned (.int .i64 (y8 uf))/\Ev w1 w'):=zq (λw1 (hE:Ev w w1)=>GX w1 ((hD.cols ⟨[117],some ⟨g+1,0,none⟩,2,uf⟩ (by simp[tuD])).ev hE));rw[ajP]at HNT;rw[ajQ]at HNU;rw[aoa]at HCT;rw[aob]at HCU;clear hD;go_enter func13,ntmps13
 go_wp2_with ((with_reducible refine(HR.out).mono ?_);rintro e w1 ⟨rfl,aK⟩;have oO:=zq aK;obtain⟨hbl,c0,c1,c2,c3⟩:=HN.out w1 aK;clear aK)
 refine wp_loop_rounds 3 ?_;rw[rounds_succ];have hX:=Bx.new 42 #[.string ⟨#[116]⟩,.slice ↑g 3 3] w1;obtain⟨⟨b0,b1⟩,_⟩:=hX.two
 go_wp2_with (first
  | ((with_reducible refine(HNT.out _).mono ?_);rintro e w2 ⟨rfl,hE⟩;have E2:=zq (oO.out.trans ((Ev.alloc w1 _).trans hE));clear b0 b1;obtain⟨⟨b0,b1⟩,_⟩:=(hX.ev hE).two;clear hE)
  | ((with_reducible refine(HCT.out _ E2.out).mono ?_);rintro e w3 ⟨rfl,hE⟩;have YJ:=zq (E2.out.trans hE);clear hbl c0 c1 c2 c3;obtain⟨hbl,c0,c1,c2,c3⟩:=HN.out w3 YJ.out;clear hE E2))
 clear hX b0 b1;rw[rounds_succ];have hX:=Bx.new 42 #[.string ⟨#[117]⟩,.slice (some ⟨g+1,0,none⟩) 2 2] w3;obtain⟨⟨b0,b1⟩,_⟩:=hX.two
 go_wp2_with (first
  | ((with_reducible refine(HNU.out _).mono ?_);rintro e w4 ⟨rfl,hE⟩;have E2:=zq (YJ.out.trans ((Ev.alloc w3 _).trans hE));clear b0 b1;obtain⟨⟨b0,b1⟩,_⟩:=(hX.ev hE).two;clear hE)
  | ((with_reducible refine(HCU.out _ E2.out).mono ?_);rintro e w5 ⟨rfl,hE⟩;have Jc:=zq (E2.out.trans hE);clear hbl c0 c1 c2 c3;obtain⟨hbl,c0,c1,c2,c3⟩:=HN.out w5 Jc.out;clear hE E2))
 clear hX b0 b1;rw[rounds_succ];go_wp2;go_ret;exact⟨rfl,Jc.out⟩
def Aj(p:Pl):List C×Int×ByteArray:=if qR p=[] then ([],12,⟨#[]⟩) else if (ckOf H9 p).why=0 then ((ckOf H9 p).cols,0,⟨#[]⟩) else ([],(ckOf H9 p).why,(ckOf H9 p).name)
def xE(R:List C×Int×ByteArray)(w:ak)(e:Ending)(w':ak):Prop:=∃v,e=.returned (.tuple #[v,.int .i64 R.2.1,.string R.2.2])/\Ow 50 2 dZ w.heap.size w' v R.1/\Ev w w'
theorem ad_(g:Nat):∀d∈tuD g,0<d.cols.length/\d.cols.length<=6:=λd hd=>by unfold tuD at hd;rcases awq.1 hd with rfl|hd;exact⟨by show 0<ng.length;decide,by show ng.length<=6;decide⟩;simp at hd;subst hd;exact⟨by show 0<uf.length;decide,by show uf.length<=6;decide⟩
theorem WH(m:PM)(b0:Nat)(v:au)(w:ak)(hT:Tab w)(h:Qx b0 [] w m)(hg:m.p.good)(hsz:(aH m.p).size<=10000)(hlen:(printS (aH m.p)).length<=100000)(hv:yx v w):
  Calls ax 7 #[.agg ↑m,v] w (xE (Aj m.p) w):=by
 have fD:Tryz.prog.follows .mixedOrders=true:=ah;have HDF:=zq (λw1 (hE:Ev w w1)=>XU v w1 (yx.mono _ _ _ hE hv));have Gv:=zq (λw1 (hE:Ev w w1)=>abW m b0 w1 (hT.ev hE) (h.ev hE) hg hsz hlen);have hfit:=Eu _ hg hsz;obtain⟨g,rfl,hD⟩:=hv;have HOF:=zq (λw1 (hE:Ev w w1)=>ajM m.dep m b0 (tuD g) (some ⟨g+2,0,none⟩) 2 2 w1 (awj _) (h.ev hE) hg hfit (hD.ev hE) (ad_ g));rw[ag1]at HOF;obtain⟨w0,hw0,aW,hB,_⟩:=LG w m;obtain⟨⟨p0,p1,p2,p3,p4,p5,p6,p7⟩,_⟩:=hB.eight;have HE:=zq aW;have HB:=zq hB;unfold pv fE.v PM.kv at Gv;unfold jX at HOF;unfold Aj xE;generalize qR m.p=PS at*;generalize ckOf H9 m.p=R at*;clear hT h hg hsz hlen hfit hD hB aW
 cases PS with
 | nil=>
  rw[if_pos rfl];go_enter func7,ntmps7
  go_wp2_with (first
   | ((with_reducible refine(HDF.out _ HE.out).mono ?_);rintro e w1 ⟨rfl,aK⟩;have E1:=zq (HE.out.trans aK);clear p0 p1 p2 p3 p4 p5 p6 p7;obtain⟨⟨p0,p1,p2,p3,p4,p5,p6,p7⟩,_⟩:=(HB.out.ev aK).eight;have uG:=zq (HB.out.ev aK);clear aK)
   | ((with_reducible refine(Gv.out _ E1.out).mono ?_);rintro e w2 ⟨rfl,bQ⟩;have E2:=zq (E1.out.trans bQ);clear p0 p1 p2 p3 p4 p5 p6 p7;obtain⟨⟨p0,p1,p2,p3,p4,p5,p6,p7⟩,_⟩:=(uG.out.ev bQ).eight;clear bQ))
  go_ret3
  exact⟨_,rfl,Ow.nil_ _,E2.out⟩
 | cons x PS=>
  rw[if_neg aj];have hne:((⟨(x::PS).toArray⟩:ByteArray).toList==[])=false:=aj;by_cases hw:R.why=0
  ·rw[if_pos hw];have MN:(R.why !=0)=false:=by simp[hw]
   go_enter func7,ntmps7
   go_wp2_with (first
    | ((with_reducible refine(HDF.out _ HE.out).mono ?_);rintro e w1 ⟨rfl,aK⟩;have E1:=zq (HE.out.trans aK);clear p0 p1 p2 p3 p4 p5 p6 p7;obtain⟨⟨p0,p1,p2,p3,p4,p5,p6,p7⟩,_⟩:=(HB.out.ev aK).eight;have uG:=zq (HB.out.ev aK);clear aK)
    | ((with_reducible refine(Gv.out _ E1.out).mono ?_);rintro e w2 ⟨rfl,bQ⟩;have E2:=zq (E1.out.trans bQ);clear p0 p1 p2 p3 p4 p5 p6 p7;obtain⟨⟨p0,p1,p2,p3,p4,p5,p6,p7⟩,_⟩:=(uG.out.ev bQ).eight;clear bQ)
    | ((with_reducible refine(HOF.out _ E2.out).mono ?_);rintro e w3 ⟨v3,rfl,hO,qB,ER⟩;obtain⟨vA,vc,rfl,oJ,pM⟩:=hO.form nV;clear oJ pM;have iI:=qB.ev (λk hk=>by cases hk);have E3:=zq (E2.out.trans iI);have HO:=zq (hO.Af (E2.out.size));clear hO qB ER iI p0 p1 p2 p3 p4 p5 p6 p7))
   go_ret3
   exact⟨_,rfl,HO.out.ev az,E3.out.trans az⟩
  rw[if_neg hw];have MN:(R.why !=0)=true:=by simp[hw]
  go_enter func7,ntmps7;go_upto_region 7 with (first
   | ((with_reducible refine(HDF.out _ HE.out).mono ?_);rintro e w1 ⟨rfl,aK⟩;have E1:=zq (HE.out.trans aK);clear p0 p1 p2 p3 p4 p5 p6 p7;obtain⟨⟨p0,p1,p2,p3,p4,p5,p6,p7⟩,_⟩:=(HB.out.ev aK).eight;have uG:=zq (HB.out.ev aK);clear aK)
   | ((with_reducible refine(Gv.out _ E1.out).mono ?_);rintro e w2 ⟨rfl,bQ⟩;have E2:=zq (E1.out.trans bQ);clear p0 p1 p2 p3 p4 p5 p6 p7;obtain⟨⟨p0,p1,p2,p3,p4,p5,p6,p7⟩,_⟩:=(uG.out.ev bQ).eight;clear bQ)
   | ((with_reducible refine(HOF.out _ E2.out).mono ?_);rintro e w3 ⟨v3,rfl,hO,qB,ER⟩;obtain⟨vA,vc,rfl,oJ,pM⟩:=hO.form nV;clear oJ pM;have iI:=qB.ev (λk hk=>by cases hk);have E3:=zq (E2.out.trans iI);have HO:=zq (hO.Af (E2.out.size));clear hO qB ER iI p0 p1 p2 p3 p4 p5 p6 p7))
  have hRB:=Bx.new 58 #[.slice vA R.cols.length vc,↑R.why,.string R.name] w3;obtain⟨⟨g0,g1,g2⟩,_⟩:=hRB.three;clear hRB
  go_quiet (fail)
  go_wp2
  go_ret3
  exact⟨_,rfl,Ow.nil_ _,(E3.out.trans az).trans (Ev.drewN _ _)⟩
theorem uS{A B:Option Addr}{n cap cap':Nat}{l:List C}(w:ak)(h:Cs w A n cap l)(h':Cs w B n cap' l):
  Calls ax 12 #[.slice A n cap,.slice B n cap'] w λe w'=>e=.returned (.bool true)/\Ev w w':=by
 have hn:=h.le;have hm:=h.max;have hn':=h'.le;have hm':=h'.max;go_enter func12,ntmps12;go_wp2
 go_loopw [5] (λi wr=>∃k:Nat,k<=n/\i=↑k/\Ev w wr) (λi _=>n - (intOf i).toNat)
 case atStart=>exact⟨0,aww _,rfl,Ev.refl _⟩
 case round=>
  obtain⟨k,hk,rfl,hE⟩:=hrel;by_cases hlt:k<n
  ·obtain⟨x,hx⟩:=(h.ev hE).at hlt;obtain⟨b1,off,rfl,c0,c1⟩:=Cs.zM (h.ev hE) hx;obtain⟨b2,off',rfl,d0,d1⟩:=Cs.zM (h'.ev hE) hx;have i1:(0:Int)<=(k:Int):=ae;have i2:(k:Int)<(n:Int):=ae;clear hx h h'
   go_wp2_with fail
   refine wp_region_quiet_lit ah ah ?_
   repeat (quiet_step (fail))
   refine wpQuiet_nil ?_;rintro _ ⟨nq,rfl⟩;go_wp2;go_roundw
   case rel=>exact⟨k+1,ae,by go_num,hE.trans (Ev.drewN _ _)⟩
   case measure=>simp[intOf];omega
  obtain rfl:k=n:=ae;go_wp2;go_ret;exact⟨rfl,hE⟩
def O5(p:Pl)(w:ak)(e:Ending)(w':ak):Prop:=∃m:PM,e=.returned (.agg ↑m)/\m.p=p/\Qx 0 [] w' m/\Ev w w'
theorem QW(s:By)(w:ak)(hs:s.length<=100000):Calls ax 8 #[↑s] w (O5 (dF s).1 w):=by
 have HR:=zq (λw1=>aei s w1 hs);obtain⟨w0,hw0,aW,hB0,hs0⟩:=uC w;have tV:=zq hB0;have dM:=zq aW;obtain⟨⟨d0,d1,d2,d3,d4,d5,d6,d7⟩,r0,r1,r2,r3,r4,r5,r6,r7⟩:=hB0.eight;unfold bH at HR;unfold O5;generalize dF s=R at*;obtain⟨Rp,Rw,Rx⟩:=R;simp only at HR|-;clear hB0 aW;go_enter func8,ntmps8
 go_wp2_with (first
  | ((with_reducible refine(HR.out _).mono ?_);rintro r w1 ⟨m,rfl,hmp,hmq,aK⟩;simp only[];obtain⟨w2,hw2,bQ,hB2,_⟩:=LG w1 m;have E2:=zq (aK.trans bQ);have HMP:=zq hmp;have HMQ:=zq ((hmq.ev bQ).less (K':=[w.heap.size]) (λk hk=>by simp at hk;subst hk;exact .inr (.inl ae)));obtain⟨⟨p0,p1,p2,p3,p4,p5,p6,p7⟩,_⟩:=hB2.eight;clear d0 d1 d2 d3 d4 d5 d6 d7 r0 r1 r2 r3 r4 r5 r6 r7;obtain⟨⟨d0,d1,d2,d3,d4,d5,d6,d7⟩,r0,r1,r2,r3,r4,r5,r6,r7⟩:=(tV.out.ev E2.out).eight;have jP:=zq (tV.out.ev E2.out);clear hmp hmq aK bQ hB2))
 (try simp only[Exit.inBlock,Exit.then]);rw[bu];refine bodyPost_ret (aS rfl _ _ _ _ _ rfl (jP.out.iK _ _ _ _ _ _ _ _) underlying32 rfl Tryz.bG) rfl ?_;exact⟨m,rfl,HMP.out,((HMQ.out.move (bV _ _ _ _ _ _ _ _ _ _) λk hk=>.inl hk).less (K':=[]) λk hk=>by cases hk).low (aww _),(dM.out.trans E2.out).box (bV _ _ _ _ _ _ _ _ _ _) (awj _)⟩
theorem WR(m:PM)(b0:Nat)(v:au)(w:ak)(hT:Tab w)(h:Qx b0 [] w m)(hm:m.p=ik)(hv:yx v w):
  Calls ax 7 #[.agg ↑m,v] w (xE ([],12,⟨#[]⟩) w):=by
 have HDF:=zq (λw1 (hE:Ev w w1)=>XU v w1 (yx.mono _ _ _ hE hv));have Gv:=zq (λw1 (hE:Ev w w1)=>Zn m b0 w1 (hT.ev hE) (h.ev hE) hm);obtain⟨g,rfl,hD⟩:=hv;obtain⟨w0,hw0,aW,hB,_⟩:=LG w m;obtain⟨⟨p0,p1,p2,p3,p4,p5,p6,p7⟩,_⟩:=hB.eight;have HE:=zq aW;have HB:=zq hB;unfold pv fE.v PM.kv at Gv;unfold xE;clear hT h hm hD hB aW;go_enter func7,ntmps7
 go_wp2_with (first
  | ((with_reducible refine(HDF.out _ HE.out).mono ?_);rintro e w1 ⟨rfl,aK⟩;have E1:=zq (HE.out.trans aK);clear p0 p1 p2 p3 p4 p5 p6 p7;obtain⟨⟨p0,p1,p2,p3,p4,p5,p6,p7⟩,_⟩:=(HB.out.ev aK).eight;have uG:=zq (HB.out.ev aK);clear aK)
  | ((with_reducible refine(Gv.out _ E1.out).mono ?_);rintro e w2 ⟨rfl,bQ⟩;have E2:=zq (E1.out.trans bQ);clear p0 p1 p2 p3 p4 p5 p6 p7;obtain⟨⟨p0,p1,p2,p3,p4,p5,p6,p7⟩,_⟩:=(uG.out.ev bQ).eight;clear bQ))
 go_ret3
 exact⟨_,rfl,Ow.nil_ _,E2.out⟩
def Ap(s:By):List C×Int×ByteArray:=if (dF s).2.1=0 then Aj (dF s).1 else ([],12,⟨#[]⟩)
theorem Je(s:By)(m:PM)(v:au)(w:ak)(hT:Tab w)(h:Qx 0 [] w m)(hm:m.p=(dF s).1)(hv:yx v w):
  Calls ax 7 #[.agg ↑m,v] w (xE (Ap s) w):=by
 unfold Ap;by_cases h0:(dF s).2.1=0;rw[if_pos h0];have hW:=Dz s h0;rw[<-hm]at hW|-;exact WH m 0 v w hT h hW.wr.good (by have:=hW.wr.size;omega) (by have:=hW.abz;omega) hv;rw[if_neg h0];exact WR m 0 v w hT h (hm.trans (Um s h0)) hv
def ka:By:=[40,116,97,98,108,101,32,116,41]
def kb:By:=[40,103,114,111,117,112,32,40,97,41,32,40,97,32,99,111,117,110,116,41,32,40,116,97,98,108,101,32,116,41,41]
theorem ahe:Ap ka=(ng,0,⟨#[]⟩):=ah
theorem ahf:Ap kb=([],21,⟨#[97]⟩):=ah
theorem aek(w:ak)(hT:Tab w):Calls ax 14 #[] w λe w'=>e=.returned (.bool true)/\Ev w w':=by
 have HA:Hid (∀w1,Calls ax 8 #[.string ⟨#[40,116,97,98,108,101,32,116,41]⟩] w1 (O5 (dF ka).1 w1)):=zq λw1=>QW ka w1 ai;have HB:Hid (∀w1,Calls ax 8 #[.string ⟨#[40,103,114,111,117,112,32,40,97,41,32,40,97,32,99,111,117,110,116,41,32,40,116,97,98,108,101,32,116,41,41]⟩] w1 (O5 (dF kb).1 w1)):=zq λw1=>QW kb w1 ai;have HDF:=zq sS;have HO1:=zq (λ(m:PM) (v:au) w1 (hE:Ev w w1) (h:Qx 0 [] w1 m) (hm:m.p=(dF ka).1) (hv:yx v w1)=>Je ka m v w1 (hT.ev hE) h hm hv);have HO2:=zq (λ(m:PM) (v:au) w1 (hE:Ev w w1) (h:Qx 0 [] w1 m) (hm:m.p=(dF kb).1) (hv:yx v w1)=>Je kb m v w1 (hT.ev hE) h hm hv);have HT:=zq af9;have dM:=zq (Ev.refl w);rw[ahe]at HO1;rw[ahf]at HO2;unfold O5 at HA HB;unfold xE at HO1 HO2;generalize dF ka=ra at*;generalize dF kb=rb at*;clear hT;go_enter func14,ntmps14
 go_wp2_with (first
  | ((with_reducible refine(HA.out _).mono ?_);rintro e w1 ⟨m1,rfl,hm,hq,hE⟩;have HM1:=zq hm;have HQ1:=zq hq;have E1:=zq (dM.out.trans hE);clear hm hq hE)
  | ((with_reducible refine(HDF.out _).mono ?_);rintro e w2 ⟨v1,rfl,hE,hv⟩;have HV1:=zq hv;have E2:=zq (E1.out.trans hE);have aoB:=zq (HQ1.out.ev hE);clear hv hE)
  | ((with_reducible refine(HO1.out m1 v1 _ (E2.out) aoB.out HM1.out HV1.out).mono ?_);rintro e w3 ⟨x1,rfl,hO,hE⟩;have Su:=zq hO;have E3:=zq (E2.out.trans hE);obtain⟨xA1,xc1,rfl,oJ,pM⟩:=hO.form nV;have HC1:=zq oJ;clear pM oJ hO hE)
  | ((with_reducible refine(HB.out _).mono ?_);rintro e w4 ⟨m2,rfl,hm,hq,hE⟩;have HM2:=zq hm;have HQ2:=zq hq;have E4:=zq ((zq (Ev.refl w3)).out.trans hE);clear hm hq hE)
  | ((with_reducible refine(HDF.out _).mono ?_);rintro e w5 ⟨v2,rfl,hE,hv⟩;have HV2:=zq hv;have E5:=zq (E4.out.trans hE);have aoC:=zq (HQ2.out.ev hE);clear hv hE)
  | ((with_reducible refine(HO2.out m2 v2 _ (E3.out.trans E5.out) aoC.out HM2.out HV2.out).mono ?_);rintro e w6 ⟨x2,rfl,hO,hE⟩;have HX2:=zq hO;have E6:=zq (E5.out.trans hE);obtain⟨xA2,xc2,rfl,oJ,pM⟩:=hO.form nV;have HC2:=zq oJ;clear pM oJ hO hE)
  | ((with_reducible refine(HT.out _).mono ?_);rintro e w7 ⟨rfl,hC7,hE⟩;have HK:Hid (Calls ax 12 #[.slice xA1 ng.length xc1,.slice (some ⟨w6.heap.size,0,none⟩) 3 3] w7 λe w'=>e=.returned (.bool true)/\Ev w7 w'):=zq (uS w7 (HC1.out.ev (E6.out.trans hE)) hC7);have E7:=zq (E3.out.trans (E6.out.trans hE));clear hC7 hE)
  | ((with_reducible refine(HK.out).mono ?_);rintro e w8 ⟨rfl,hE⟩))
 go_ret;exact⟨rfl,E7.out.trans hE⟩
abbrev WS(k:Int):Prop:=k=1∨k=2
structure kY(l:List C):Prop where
 each:∀c∈l,fK c.1=true/\WS c.2
 apart:l.Pairwise λa b=>named b.1 a=false
theorem EK{l:List C}{s:ByteArray}:(fM l s).isSome=false↔∀c∈l,named s c=false:=by unfold fM;rw[Option.isSome_eq_false_iff,Option.isNone_iff_eq_none,axR]
theorem kY.nil:kY []:=⟨λc h=>(by cases h),List.Pairwise.nil⟩
theorem kY.add{l:List C}{nm:ByteArray}{k:Int}(h:kY l)(hn:fK nm=true)(hk:WS k)(hf:(fM l nm).isSome=false):kY (l++[(nm,k)]):=by refine⟨λc hc=>?_,?_⟩;rcases awD.1 hc with h1|h1;exact h.each c h1;simp at h1;subst h1;exact⟨hn,hk⟩;rw[List.pairwise_append];refine⟨h.apart,List.pairwise_singleton _ _,λa ha b hb=>?_⟩;simp at hb;subst hb;exact EK.1 hf a ha
theorem Ur:∀(r pre:List C),kY (pre++r)->colsFrom pre r=0
 | [],_,_=>rfl
 | c::r,pre,h=>by
  have h1:=h.each c aj;have h2:(fM pre c.1).isSome=false:=EK.2 λa ha=>(List.pairwise_append.1 h.apart).2.2 a ha c (awp ..);have h3:(fK c.1&&(c.2==1||c.2==2))=true:=by rw[h1.1];rcases h1.2 with e|e<;>simp[e]
  unfold colsFrom;rw[if_neg (by rw[h3];decide),if_neg (by rw[h2];decide)];exact Ur r (pre++[c]) (by rw[awI];exact h)
theorem kY.right{l:List C}(h:kY l)(h1:1<=l.length)(h6:l.length<=6):y8 l=0:=by unfold y8;rw[if_pos (by simp[h1,h6])];exact Ur l [] h
theorem XY{l:List C}{s:ByteArray}(h:kY l)(hf:(fM l s).isSome=true):WS (dS l s):=by
 obtain⟨i,hi⟩:=Option.isSome_iff_exists.1 hf;obtain⟨c,hc⟩:∃c,l[i]?=some c:=⟨_,awE (JP hi)⟩
 unfold dS;rw[hi];simp only;rw[axa,hc];exact(h.each c (awm hc)).2
theorem ahg{ks:List Int}(hk:∀k∈ks,WS k){i:Nat}(hi:i<ks.length):WS (ks.getD i 0):=by rw[axa,awE hi];exact hk _ (List.getElem_mem hi)
theorem Ut{s:By}{ks:List Int}(h:(bP s ks).2=0)(hk:∀k∈ks,WS k)(hl:s=Nc->2<=ks.length):WS (bP s ks).1:=by
 unfold bP at h|-;have key:∀(b:Bool) (k:Int),WS k->(if b=true then (k,0) else ((0:Int),(22:Int))).2=0->WS (if b=true then (k,0) else ((0:Int),(22:Int))).1:=λb k hk hb=>by
  cases b
  simp at hb;exact hk
 split at h;rename_i h1;rw[if_pos h1];exact key _ _ (.inl rfl) h;rename_i h1;rw[if_neg h1];split at h;rename_i h2;rw[if_pos h2];exact key _ _ (.inl rfl) h;rename_i h2;rw[if_neg h2];split at h;rename_i h3;rw[if_pos h3];exact key _ _ (.inr rfl) h;rename_i h3;rw[if_neg h3];split at h;rename_i h4;rw[if_pos h4];exact key _ _ (.inl rfl) h;rename_i h4;rw[if_neg h4];split at h;rename_i h5;rw[if_pos h5];exact key _ _ (ahg hk (awz ai (hl (by simpa using h5)))) h;exact absurd h ai
mutual
theorem MF{cols:List C}(hc:∀c∈cols,WS c.2):∀t:T,dQ t=true->(xKind cols t).2=0->WS (xKind cols t).1
 | .mk k s n l p=>λhr h=>by
  have hl:=Ia hc l;rw[dQ,awk]at hr;rw[xKind]at h|-;split at h;rename_i h1;rw[if_pos h1]
  cases hf:fM cols (dh s) with
  | none=>rw[hf]at h;simp at h
  | some i=>
   obtain⟨c,hcc⟩:∃c,cols[i]?=some c:=⟨_,awE (JP hf)⟩
   simp only;rw[axa,hcc];exact hc c (awm hcc)
  rename_i h1;rw[if_neg h1];split at h;rename_i h2;rw[if_pos h2];exact .inl rfl;rename_i h2;rw[if_neg h2];split at h;rename_i h3;rw[if_pos h3];exact .inr rfl;rename_i h3;rw[if_neg h3];have ha:=GY s _ _ h;rw[D5 s _ _ ha]at h|-;refine Ut h (λx hx=>?_) (λhs=>?_);rw[axd]at hx;obtain⟨r,hr2,rfl⟩:=awN.1 hx;exact hl hr.2 r hr2 (ha r hr2);have mG:=hr.1;subst hs;have hx:bI Nc=3:=by decide+kernel
  have e1:(k==1)=false:=by simpa using h1
  have e2:(k==2)=false:=by simpa using h2
  have e3:(k==3)=false:=by simpa using h3
  have h5:l.length=3:=by
   cases e4:(k==4)
   simp[lQ,T.kind,e1,e2,e3,e4]at mG;simp[lQ,T.kind,T.s,T.n,T.kids,e1,e2,e3,e4,hx]at mG;exact mG.2
  rw[axd,awh,CP,awh,h5];decide
theorem Ia{cols:List C}(hc:∀c∈cols,WS c.2):∀l:List T,rP l=true->∀r∈CO cols l,r.2=0->WS r.1
 | []=>λ_ r hr=>by rw[CO]at hr;cases hr
 | t::l=>λh r hr h0=>by have ht:=MF hc t;have hl:=Ia hc l;rw[rP,awk]at h;rw[CO]at hr;rcases awq.1 hr with e|hr;rw[e]at h0|-;exact ht h.1 h0;exact hl h.2 r hr h0
end
theorem WT{l:List C}(h:kY l){e:T}(he:(xType l e).2=0):WS (xType l e).1:=by obtain⟨h1,h2⟩:=aaC he;unfold xType;rw[if_pos h1];exact MF (λc hc=>(h.each c hc).2) e h1 h2
def xM(r:CR):Prop:=r.why=0->kY r.cols
theorem CR.ahh{r:CR}{why:Int}{nm:ByteArray}(h:(r.fail why nm).why=0):r.why=0:=by unfold CR.fail at h;by_cases hw:r.why=0;exact hw;rwa [if_neg hw]at h
theorem xM.fail{r:CR}{why:Int}{nm:ByteArray}(h:xM r):xM (r.fail why nm):=λh0=>by rw[CR.gQ];exact h (CR.ahh h0)
theorem xM.find{r:CR}{l:List C}{s:ByteArray}(h:xM r):xM (r.find l s):=λh0=>by rw[CR.iM];exact h (CR.Kw.1 h0).1
theorem xM.kind{r:CR}{l:List C}{e:T}(h:xM r):xM (r.kind l e):=λh0=>by rw[CR.oU];exact h (CR.SV.1 h0).1
theorem xM.once{r:CR}{l:List By}{s:ByteArray}(h:xM r):xM (r.once l s):=λh0=>by rw[CR.nN];exact h (CR.aa3.1 h0).1
theorem xM.limit{r:CR}(h:xM r):xM r.limit:=λh0=>by rw[CR.kE];exact h (CR.qV.1 h0).1
theorem xM.add{r:CR}{nm:ByteArray}{k:Int}(h:xM r)(hn:fK nm=true)(hk:r.why=0->WS k):xM (r.add nm k):=λh0=>by obtain⟨h1,h2⟩:=CR.adz.1 h0;rw[CR.jV];exact(h h1).add hn (hk h1) h2
theorem xM.fold{α:Type}{f:CR->α->CR}:∀(l:List α) (r:CR),xM r->(∀r x,x∈l->xM r->xM (f r x))->xM (l.foldl f r)
 | [],r,h,_=>h
 | x::l,r,h,hf=>xM.fold l (f r x) (hf r x (awp ..) h) λr y hy=>hf r y (awn _ hy)
theorem xM.zero:xM CR.zero:=λ_=>kY.nil
theorem xM.of{l:List C}(h:kY l):xM (CR.of l):=λ_=>h
theorem xM.agg{r:CR}{kid:List C}{a:Ag}(h:xM r)(hk:kY kid)(ha:Kq a):xM (r.agg kid a):=by unfold CR.agg;split;simp only;split;exact(h.add ha.1 λ_=>.inl rfl).find;exact(h.add ha.1 λ_=>.inl rfl).find.fail;split;intro h0;obtain⟨h1,h2⟩:=CR.Kw.1 h0;rw[CR.iM];exact h.add ha.1 (λ_=>XY hk h2) h1;exact h.add ha.1 λ_=>.inl rfl
def Rt(r:CR):Prop:=r.why=0->kY r.cols/\1<=r.cols.length/\r.cols.length<=6
theorem Uu{α:Type}(f:CR->α->CR)(hf:∀r x,r.cols.length<=(f r x).cols.length):∀(l:List α) (r:CR),r.cols.length<=(l.foldl f r).cols.length
 | [],r=>awj _
 | x::l,r=>awJ (hf r x) (Uu f hf l (f r x))
theorem foldl_eq{α:Type}(f:CR->α->CR)(hf:∀r x,(f r x).cols=r.cols):∀(l:List α) (r:CR),(l.foldl f r).cols=r.cols
 | [],r=>rfl
 | x::l,r=>(foldl_eq f hf l (f r x)).trans (hf r x)
theorem Uw(a b:List C)(r:CR)(i:Nat):(vC a b r i).cols=r.cols:=by unfold vC;split;rfl;exact CR.gQ ..
theorem Ux(lf rt:List By)(a b:List C)(r:CR)(i:Nat):(sH lf rt a b r i).cols=r.cols:=by unfold sH;simp only;split;rw[CR.nN,CR.nN,CR.iM,CR.iM];rw[CR.gQ,CR.nN,CR.nN,CR.iM,CR.iM]
theorem WU{D:List Df}(hD:∀d∈D,kY d.2/\1<=d.2.length/\d.2.length<=6){k:Int}{nm:By}{es:List T}{cs lf rt:List By}{ag:List Ag}{kids:List (List C)}(hg:x8 k nm es cs lf rt ag kids.length)(hk:∀K∈kids,kY K/\1<=K.length/\K.length<=6):
  Rt (CY D k nm es cs lf rt ag kids):=by
 have yc:∀i,i<kids.length->kY (kids.getD i [])/\1<=(kids.getD i []).length/\(kids.getD i []).length<=6:=λi hi=>by rw[axa,awE hi];exact hk _ (List.getElem_mem hi)
 rcases hg with⟨rfl,-,-,-,-,-,-,hn⟩|⟨rfl,-,-,-,-,-,-,hn⟩|⟨rfl,-,hes,UT,h1c,hcs,-,-,-,hn⟩|⟨rfl,-,-,-,-,-,-,hn⟩|⟨rfl,-,-,-,-,-,-,hn⟩|⟨rfl,-,-,-,-,-,-,hn⟩|⟨rfl,-,-,-,tq,-,Ac,hn⟩
 show Rt (uu D nm);unfold uu
 cases hf:D.find? (λd=>d.1==nm) with
 | none=>intro h;exact absurd h (CR.sJ ai)
 | some d=>intro _;exact hD d (List.mem_of_find?_eq_some hf)
 show Rt (sG (es.getD 0 dR) (kids.getD 0 []));have h0:=yc 0 ae;intro h;have hc:(sG (es.getD 0 dR) (kids.getD 0 [])).cols=kids.getD 0 []:=by unfold sG;simp only;split;rw[CR.oU];rfl;rw[CR.gQ,CR.oU];rfl
 rw[hc];exact h0
 ·show Rt (qU es cs (kids.getD 0 []));have h0:=yc 0 ae;intro h;unfold qU at h|-;have h2:=(CR.qV.1 h).2;have hge:(es.zip cs).length<=((es.zip cs).foldl (vz (kids.getD 0 [])) CR.zero).cols.length:=by
   have key:∀(l:List (T×By)) (r:CR),r.cols.length+l.length<=(l.foldl (vz (kids.getD 0 [])) r).cols.length:=λl=>by
    induction l with
    | nil=>intro r;exact awj _
    | cons x l ih=>
     intro r;have h5:=ih (vz (kids.getD 0 []) r x);have h6:(vz (kids.getD 0 []) r x).cols.length=r.cols.length+1:=by unfold vz;rw[CR.jV,CR.oU];simp
     rw[axj,awr];omega
   have:=key (es.zip cs) CR.zero;have h7:CR.zero.cols.length=0:=rfl;omega
  have hzl:(es.zip cs).length=cs.length:=by rw[List.length_zip,UT];omega
  refine⟨(xM.limit (xM.fold _ _ xM.zero λr x hx hr=>?_)) h,?_,?_⟩;have hx2:fK (dh x.2)=true:=hcs x.2 (List.of_mem_zip hx).2;unfold vz;exact hr.kind.add hx2 λh9=>WT h0.1 (CR.SV.1 h9).2;rw[CR.kE];omega;rw[CR.kE];exact h2
 show Rt (oK lf rt (kids.getD 0 []) (kids.getD 1 []));have h0:=yc 0 ae;have h1:=yc 1 ae;intro h;unfold oK at h|-;split at h;rename_i hc;rw[if_pos hc];have h2:=(CR.qV.1 h).2;have dL:((List.range lf.length).foldl (sH lf rt (kids.getD 0 []) (kids.getD 1 [])) (CR.of (kids.getD 0 []))).cols=kids.getD 0 []:=foldl_eq _ (Ux lf rt _ _) _ _;have hge:=Uu (l9 rt) (λr c=>by unfold l9;split;exact awj _;rw[CR.jV];simp) (kids.getD 1 []) ((List.range lf.length).foldl (sH lf rt (kids.getD 0 []) (kids.getD 1 [])) (CR.of (kids.getD 0 [])));rw[dL]at hge;refine⟨(xM.limit (xM.fold _ _ (xM.fold _ _ (xM.of h0.1) λr i hi hr=>?_) λr c hc2 hr=>?_)) h,?_,?_⟩;unfold sH;simp only;split;exact hr.find.find.once.once;exact hr.find.find.once.once.fail;unfold l9;split;exact hr;exact hr.add (h1.1.each c hc2).1 λ_=>(h1.1.each c hc2).2;rw[CR.kE];exact awJ h0.2.1 hge;rw[CR.kE];exact h2;exact absurd h (CR.sJ ai);show Rt (uw (kids.getD 0 []) (kids.getD 1 []));have h0:=yc 0 ae;intro h;have hc:(uw (kids.getD 0 []) (kids.getD 1 [])).cols=kids.getD 0 []:=by unfold uw;split;exact foldl_eq _ (Uw _ _) _ _;exact CR.gQ ..
 rw[hc];exact h0;show Rt (CR.of (kids.getD 0 []));exact λ_=>yc 0 ae;show Rt (uy lf ag (kids.getD 0 []));have h0:=yc 0 ae;intro h;unfold uy at h|-;simp only at h|-;have CE:xM (ag.foldl (λr a=>r.agg (kids.getD 0 []) a) (lf.foldl (pO (kids.getD 0 [])) CR.zero)):=by refine xM.fold _ _ (xM.fold _ _ xM.zero λr s hs hr=>?_) λr a ha hr=>hr.agg h0.1 (Ac a ha);have hs2:fK (dh s)=true:=tq s hs;unfold pO;exact hr.find.add hs2 λh9=>XY h0.1 (CR.Kw.1 h9).2
 generalize (ag.foldl (λr a=>r.agg (kids.getD 0 []) a) (lf.foldl (pO (kids.getD 0 [])) CR.zero))=R at*;have h2:=CR.qV.1 h;by_cases hl:R.cols.length=0;rw[if_pos hl]at h2;exact absurd h2.1 (CR.sJ ai);rw[if_neg hl]at h h2|-;exact⟨CE.limit h,by rw[CR.kE];omega,by rw[CR.kE];exact h2.2⟩
mutual
theorem DC{D:List Df}(hD:∀d∈D,kY d.2/\1<=d.2.length/\d.2.length<=6):∀p:Pl,p.good->Rt (ckOf D p)
 | .mk k nm es cs lf rt ag l=>λhg=>by
  have hl:=Ib hD l;rw[Pl.good]at hg;rw[ckOf]
  cases hb:zf (ckAll D l) with
  | some r=>intro h;exact absurd h (Oy hb)
  | none=>
   refine WU hD (by rw[awh,F8,awh];exact hg.1) λK hK=>?_;obtain⟨r,hr,rfl⟩:=awN.1 hK;exact hl hg.2 r hr (SQ hb r hr)
theorem Ib{D:List Df}(hD:∀d∈D,kY d.2/\1<=d.2.length/\d.2.length<=6):∀l:List Pl,Pl.Kr l->∀r∈ckAll D l,Rt r
 | []=>λ_ r hr=>by rw[ckAll]at hr;cases hr
 | p::l=>λhg r hr=>by have hp:=DC hD p;have hl:=Ib hD l;rw[Pl.Kr]at hg;rw[ckAll]at hr;rcases awq.1 hr with e|hr;rw[e];exact hp hg.1;exact hl hg.2 r hr
end
theorem O6:∀d∈H9,kY d.2/\1<=d.2.length/\d.2.length<=6:=λd hd=>by
 unfold H9 at hd;have g1:kY ng:=⟨λc hc=>by
  unfold ng at hc;simp only[awq,awU,or_false]at hc;rcases hc with rfl|rfl|rfl;exact⟨by decide+kernel,.inl rfl⟩;exact⟨by decide+kernel,.inl rfl⟩;exact⟨by decide+kernel,.inr rfl⟩,by decide+kernel⟩
 have g2:kY uf:=⟨λc hc=>by
  unfold uf at hc;simp only[awq,awU,or_false]at hc;rcases hc with rfl|rfl;exact⟨by decide+kernel,.inl rfl⟩;exact⟨by decide+kernel,.inl rfl⟩,by decide+kernel⟩
 simp only[awq,awU,or_false]at hd;rcases hd with rfl|rfl;exact⟨g1,ai,ai⟩;exact⟨g2,ai,ai⟩
theorem WrP.shown{p:Pl}(h:WrP p):qR p≠[]:=by unfold qR;rw[if_pos ⟨h.abz,h.deep⟩];exact h.wr.ne
theorem WrP.Aj{p:Pl}(h:WrP p):Aj p=if (ckOf H9 p).why=0 then ((ckOf H9 p).cols,0,⟨#[]⟩) else ([],(ckOf H9 p).why,(ckOf H9 p).name):=by unfold YtpbfokkocaemlaaGreatDoor.Aj;rw[if_neg h.shown]
def q0(b:Nat)(m:PM):PM:=.mk 2 [] ⟨some ⟨b,0,none⟩,1,[.mk 2 [] 1 none 0 [] 0]⟩ .nil .nil .nil .nil (some ⟨b+1,0,none⟩) 1 [m]
def q1(b:Nat)(m:PM):PM:=.mk 6 [] .nil .nil .nil .nil .nil (some ⟨b+2,0,none⟩) 1 [m]
def q2(b:Nat)(m:PM):PM:=.mk 5 [] .nil .nil .nil .nil .nil (some ⟨b+3,0,none⟩) 2 [m,m]
def jd(b:Nat)(l:List C)(y:Int)(s:ByteArray)(v:au)(w:ak):Prop:=∃x,v=.tuple #[x,↑y,.string s]/\Ow 50 2 dZ b w x l
theorem jd.mono(b:Nat)(l:List C)(y:Int)(s:ByteArray):o8 (jd b l y s):=λv w w' hE ⟨x,e,h⟩=>⟨x,e,h.ev hE⟩
def jF(b:Nat)(l:List C)(v:au)(w:ak):Prop:=Ow 50 2 dZ b w v l
theorem jF.mono(b:Nat)(l:List C):o8 (jF b l):=λv w w' hE h=>h.ev hE
theorem jF.form{b:Nat}{l:List C}{v:au}{w:ak}(h:jF b l v w):∃A cap,v=.slice A l.length cap/\Cs w A l.length cap l:=by obtain⟨A,cap,hv,hS,_⟩:=Ow.form nV h;exact⟨A,cap,hv,hS⟩
theorem MG(s:By):((Ap s).2.1≠0/\(Ap s).1=[])∨((Ap s).2.1=0/\WrP (dF s).1/\(ckOf H9 (dF s).1).why=0/\(Ap s).1=(ckOf H9 (dF s).1).cols/\y8 (Ap s).1=0):=by unfold Ap;by_cases h0:(dF s).2.1=0;rw[if_pos h0];have hW:=Dz s h0;rw[hW.Aj];by_cases hw:(ckOf H9 (dF s).1).why=0;rw[if_pos hw];obtain⟨h1,h2,h3⟩:=DC O6 _ hW.wr.good hw;exact .inr ⟨rfl,hW,hw,rfl,h1.right h2 h3⟩;rw[if_neg hw];exact .inl ⟨hw,rfl⟩;rw[if_neg h0];exact .inl ⟨ai,rfl⟩
def tk(pre:List C):List C->ByteArray
 | []=>⟨#[]⟩
 | c::r=>if (fM pre c.1).isSome then c.1 else tk (pre++[c]) r
theorem CR.add_bad{r:CR}{nm:ByteArray}{k:Int}(h:r.why≠0):(r.add nm k).why=r.why/\(r.add nm k).name=r.name:=by unfold CR.add;simp only;split;rw[CR.SS h];exact⟨rfl,rfl⟩;exact⟨rfl,rfl⟩
abbrev tX(r:CR)(c:C):CR:=r.add c.1 c.2
theorem O7:∀(l:List C) (r:CR),(l.foldl tX r).cols=r.cols++l
 | [],r=>by simp
 | c::l,r=>by rw[axj,O7 l,CR.jV,awI];rfl
theorem MH:∀(l:List C) (r:CR),r.why≠0->(l.foldl tX r).why=r.why/\(l.foldl tX r).name=r.name
 | [],r,_=>⟨rfl,rfl⟩
 | c::l,r,h=>by have h1:=CR.add_bad (nm:=c.1) (k:=c.2) h;have h2:=MH l (r.add c.1 c.2) (by rw[h1.1];exact h);rw[axj];exact⟨h2.1.trans h1.1,h2.2.trans h1.2⟩
theorem XZ:∀(l:List C) (r:CR),r.why=0->r.name=⟨#[]⟩->(∀c∈l,c.1≠⟨#[]⟩)->
  (tk r.cols l=⟨#[]⟩->(l.foldl tX r).why=0/\(l.foldl tX r).name=⟨#[]⟩)/\(tk r.cols l≠⟨#[]⟩->(l.foldl tX r).why=21/\(l.foldl tX r).name=tk r.cols l)
 | [],r,h,hn,_=>⟨λ_=>⟨h,hn⟩,λh2=>absurd rfl h2⟩
 | c::l,r,h,hn,hl=>by
  have hc:=hl c (awp ..);rw[axj];by_cases hf:(fM r.cols c.1).isSome=true;have ht:tk r.cols (c::l)=c.1:=by unfold tk;rw[if_pos hf]
  rw[ht];have h1:(tX r c).why=21/\(tX r c).name=c.1:=by unfold tX CR.add CR.fail;simp[hf,h]
  have h2:=MH l (tX r c) (by rw[h1.1];decide);exact⟨λe=>absurd e hc,λ_=>⟨h2.1.trans h1.1,h2.2.trans h1.2⟩⟩;have ht:tk r.cols (c::l)=tk (tX r c).cols l:=by rw[CR.jV];conv=>lhs;unfold tk;rw[if_neg hf]
  rw[ht];have h1:(tX r c).why=0/\(tX r c).name=⟨#[]⟩:=by unfold tX CR.add;simp only[hf];exact⟨h,hn⟩
  exact XZ l (tX r c) h1.1 h1.2 λx hx=>hl x (awn _ hx)
theorem X0:∀(l pre:List C) (c:C),(∀x∈l,x.1≠⟨#[]⟩)->tk pre (l++[c])=if tk pre l=⟨#[]⟩ then (if (fM (pre++l) c.1).isSome then c.1 else ⟨#[]⟩) else tk pre l
 | [],pre,c,_=>by simp[tk]
 | x::l,pre,c,h=>by
  have hx:=h x (awp ..);have ih:=X0 l (pre++[x]) c λy hy=>h y (awn _ hy);rw[awI]at ih;by_cases hf:(fM pre x.1).isSome=true;have h1:tk pre (x::l)=x.1:=by unfold tk;rw[if_pos hf]
  have h2:tk pre (x::l++[c])=x.1:=by rw[awV];unfold tk;rw[if_pos hf]
  rw[h1,h2,if_neg hx];have h1:tk pre (x::l)=tk (pre++[x]) l:=by conv=>lhs;unfold tk;rw[if_neg hf]
  have h2:tk pre (x::l++[c])=tk (pre++[x]) (l++[c]):=by rw[awV];conv=>lhs;unfold tk;rw[if_neg hf]
  rw[h1,h2,ih];rfl
theorem X3{s:ByteArray}(h:fK s=true):s≠⟨#[]⟩:=λe=>by subst e;exact absurd h (by decide+kernel)
theorem A8(x:C)(l:List C):fM (x::l) x.1=some 0:=by unfold fM;rw[List.findIdx?_cons];simp[named]
theorem O8(x:C)(l:List C):dS (x::l) x.1=x.2:=by unfold dS;rw[A8];rfl
theorem toList_data(s:ByteArray):s.toList=s.data.toList:=by obtain⟨⟨x⟩⟩:=s;simp
theorem O9{y:C}:∀(l:List C) (r:CR),(∀c∈l,named c.1 y=false)->l.foldl (l9 [y.1.data.toList]) r=l.foldl tX r
 | [],_,_=>rfl
 | c::l,r,h=>by
  have h1:=h c (awp ..);have h2:yP [y.1.data.toList] c.1=false:=by unfold yP;unfold named at h1;rw[List.any_cons,List.any_nil,Bool.or_false];have h5:=toList_data;rw[h5,h5]at h1;rw[h5];rw[awg]at h1|-;exact λe=>h1 e.symm
  rw[axj,axj,O9 l _ λx hx=>h x (awn _ hx)];unfold l9;rw[h2];rfl
theorem Ba(s:ByteArray):dh s.data.toList=s:=by obtain⟨⟨x⟩⟩:=s;rfl
theorem join_one(x y:C)(la lb:List C)(hb:kY (y::lb)):
  oK [x.1.data.toList] [y.1.data.toList] (x::la) (y::lb)=(lb.foldl tX (if x.2=y.2 then CR.of (x::la) else ⟨x::la,22,x.1⟩)).limit:=by
 unfold oK;rw[if_pos ⟨rfl,aj⟩];have hk:(List.range [x.1.data.toList].length).foldl (sH [x.1.data.toList] [y.1.data.toList] (x::la) (y::lb)) (CR.of (x::la))=if x.2=y.2 then CR.of (x::la) else ⟨x::la,22,x.1⟩:=by
  show sH [x.1.data.toList] [y.1.data.toList] (x::la) (y::lb) (CR.of (x::la)) 0=_;unfold sH;have e1:([x.1.data.toList]:List By).getD 0 []=x.1.data.toList:=rfl;have e2:([y.1.data.toList]:List By).getD 0 []=y.1.data.toList:=rfl;rw[e1,e2,Ba,Ba];simp only[O8];have h1:(CR.of (x::la)).find (x::la) x.1=CR.of (x::la):=by unfold CR.find;rw[A8];rfl
  have h2:(CR.of (x::la)).find (y::lb) y.1=CR.of (x::la):=by unfold CR.find;rw[A8];rfl
  rw[h1,h2];have h3:(CR.of (x::la)).once ([x.1.data.toList].take 0) x.1=CR.of (x::la):=rfl;have h4:(CR.of (x::la)).once ([y.1.data.toList].take 0) y.1=CR.of (x::la):=rfl;rw[h3,h4];by_cases e:x.2=y.2;rw[if_pos e,if_pos e];rw[if_neg e,if_neg e];rfl
 rw[hk,axj];have hy:∀r:CR,l9 [y.1.data.toList] r y=r:=λr=>by
  unfold l9;have:yP [y.1.data.toList] y.1=true:=by simp[yP,toList_data]
  rw[this];rfl
 rw[hy,O9 lb _ λc hc=>(List.pairwise_cons.1 hb.apart).1 c hc]
def vZ(a b:By)(p q:Pl):Pl:=.mk 4 [] [] [] [a] [b] [] [p,q]
def qi(a:By)(p:Pl):Pl:=.mk 7 [] [] [] [a] [] [([122,122],fH,[])] [p]
theorem WV{a b:By}{p q:Pl}(ha:iC a=true)(hb:iC b=true)(hp:p.good)(hq:q.good):(vZ a b p q).good:=
 ⟨.inr (.inr (.inr (.inl ⟨rfl,rfl,rfl,rfl,λs hs=>(by simp at hs;subst hs;exact ha),λs hs=>(by simp at hs;subst hs;exact hb),rfl,rfl⟩))),hp,hq,trivial⟩
theorem ael:iC [122,122]=true:=by decide+kernel
theorem WW{a:By}{p:Pl}(ha:iC a=true)(hp:p.good):(qi a p).good:=
 ⟨.inr (.inr (.inr (.inr (.inr (.inr ⟨rfl,rfl,rfl,rfl,λs hs=>(by simp at hs;subst hs;exact ha),rfl,λx hx=>(by simp at hx;subst hx;exact⟨ael,.inl ⟨rfl,rfl⟩⟩),rfl⟩))))),hp,trivial⟩
theorem Ic:∀(l:List T) (b:Bool),(printL b l).length<=(l.map λt=>(printS t).length+1).sum
 | [],_=>by simp[printL]
 | t::l,b=>by
  have:=Ic l false;rw[printL]
  cases b<;>simp<;>omega
theorem Gz(l:List T):(printS (bU l)).length<=(l.map λt=>(printS t).length+1).sum+2:=by have:=Ic l true;rw[bU,qM];simp;omega
theorem aci(s:By):(printS (aP s)).length=s.length:=by simp[aP,printS]
theorem MI(a b:By)(p q:Pl):aH (vZ a b p q)=bU [aP gB,aU [a],aU [b],aH p,aH q]:=by rw[vJ];rfl
theorem MJ(a:By)(p:Pl):aH (qi a p)=bU [aP dU,aU [a],eF ([122,122],fH,[]),aH p]:=by rw[vJ];rfl
theorem WX(a b:By)(p q:Pl):(aH (vZ a b p q)).size<=(aH p).size+(aH q).size+20:=by
 rw[MI,lX];have e1:(aP gB).size=1:=ah;have e2:∀a:By,(aU [a]).size=2:=λa=>by rw[aU,lX];simp[aP,T.size,T.sizes]
 simp[e1,e2];omega
theorem WY(a:By)(p:Pl):(aH (qi a p)).size<=(aH p).size+20:=by
 rw[MJ,lX];have e1:(aP dU).size=1:=ah;have e2:∀a:By,(aU [a]).size=2:=λa=>by rw[aU,lX];simp[aP,T.size,T.sizes]
 have e3:(eF ([122,122],fH,[])).size=3:=ah;simp[e1,e2,e3];omega
theorem GG(a:By)(h:iC a=true):(printS (aU [a])).length<=20:=by have h1:=Gz ([a].map aP);have h2:=(SG h).2;rw[aU];simp[aci]at h1;simp only[awo,awG];omega
theorem ZC{a b:By}(ha:iC a=true)(hb:iC b=true)(p q:Pl):(printS (aH (vZ a b p q))).length<=(printS (aH p)).length+(printS (aH q)).length+100:=by have h:=Gz [aP gB,aU [a],aU [b],aH p,aH q];have e1:(printS (aP gB)).length=4:=ah;have e2:=GG a ha;have e3:=GG b hb;rw[MI];simp[e1]at h;omega
theorem ZE{a:By}(ha:iC a=true)(p:Pl):(printS (aH (qi a p))).length<=(printS (aH p)).length+100:=by have h:=Gz [aP dU,aU [a],eF ([122,122],fH,[]),aH p];have e1:(printS (aP dU)).length=5:=ah;have e2:=GG a ha;have e3:(printS (eF ([122,122],fH,[]))).length=10:=ah;rw[MJ];simp[e1,e3]at h;omega
structure akm(x y:C)(la lb:List C)(R:List C×Int×ByteArray):Prop where
 cases:R=([],12,⟨#[]⟩)∨(x.2≠y.2/\R=([],22,x.1))∨(x.2=y.2/\tk (x::la) lb≠⟨#[]⟩/\R=([],21,tk (x::la) lb))∨
  (x.2=y.2/\tk (x::la) lb=⟨#[]⟩/\6<(x::la++lb).length/\∃nm,R=([],23,nm))∨(x.2=y.2/\tk (x::la) lb=⟨#[]⟩/\(x::la++lb).length<=6/\R=(x::la++lb,0,⟨#[]⟩))
theorem Uy{r:CR}(h:r.why≠0):r.limit.why=r.why/\r.limit.name=r.name:=by unfold CR.limit;split;rw[CR.SS h];exact⟨rfl,rfl⟩;exact⟨rfl,rfl⟩
theorem akn{x y:C}{la lb:List C}{p q:Pl}(hp:(ckOf H9 p).why=0)(hq:(ckOf H9 q).why=0)(hpc:(ckOf H9 p).cols=x::la)(hqc:(ckOf H9 q).cols=y::lb)(hb:kY (y::lb)):
  akm x y la lb (Aj (vZ x.1.data.toList y.1.data.toList p q)):=by
 constructor;have hck:ckOf H9 (vZ x.1.data.toList y.1.data.toList p q)=(lb.foldl tX (if x.2=y.2 then CR.of (x::la) else ⟨x::la,22,x.1⟩)).limit:=by unfold vZ;rw[ckOf,ckAll,ckAll,ckAll,CZ (by simp[hp,hq])];show oK [x.1.data.toList] [y.1.data.toList] (ckOf H9 p).cols (ckOf H9 q).cols=_;rw[hpc,hqc,join_one x y la lb hb]
 have hne:∀c∈lb,c.1≠⟨#[]⟩:=λc hc=>X3 (hb.each c (awn _ hc)).1;unfold Aj;rw[hck];by_cases qF:qR (vZ x.1.data.toList y.1.data.toList p q)=[];rw[if_pos qF];exact .inl rfl;rw[if_neg qF];refine .inr ?_;by_cases he:x.2=y.2;rw[if_pos he];obtain⟨h1,h2⟩:=XZ lb (CR.of (x::la)) rfl rfl hne;have hcl:(lb.foldl tX (CR.of (x::la))).cols=x::la++lb:=O7 lb _;by_cases ht:tk (x::la) lb=⟨#[]⟩;obtain⟨g1,g2⟩:=h1 ht;by_cases hl:6<(x::la++lb).length;refine .inr (.inr (.inl ⟨he,ht,hl,?_⟩));have h5:((lb.foldl tX (CR.of (x::la))).limit).why=23:=by unfold CR.limit;rw[hcl,if_pos hl];unfold CR.fail;rw[if_pos g1]
 rw[if_neg (by rw[h5];decide),h5];exact⟨_,rfl⟩;refine .inr (.inr (.inr ⟨he,ht,ae,?_⟩));have h5:(lb.foldl tX (CR.of (x::la))).limit=lb.foldl tX (CR.of (x::la)):=by unfold CR.limit;rw[hcl,if_neg hl]
 rw[h5,if_pos g1,hcl];obtain⟨g1,g2⟩:=h2 ht;have h5:=Uy (r:=lb.foldl tX (CR.of (x::la))) (by rw[g1];decide);refine .inr (.inl ⟨he,ht,?_⟩);rw[if_neg (by rw[h5.1,g1];decide),h5.1,h5.2,g1,g2];rfl;rw[if_neg he];have h4:=MH lb ⟨x::la,22,x.1⟩ (show (22:Int)≠0 by decide);have h5:=Uy (r:=lb.foldl tX ⟨x::la,22,x.1⟩) (by rw[h4.1];show (22:Int)≠0;decide);refine .inl ⟨he,?_⟩;rw[if_neg (by rw[h5.1,h4.1];show ¬(22:Int)=0;decide),h5.1,h5.2,h4.1,h4.2]
theorem acj(D:List Df)(nm:By)(es:List T)(cs lf rt:List By)(ag:List Ag)(K:List C):CY D 7 nm es cs lf rt ag [K]=uy lf ag K:=by unfold CY;rw[if_neg ai,if_neg ai,if_neg ai,if_neg ai,if_neg ai,if_neg ai];rfl
theorem ako{x:C}{la:List C}{p:Pl}(hp:(ckOf H9 p).why=0)(hpc:(ckOf H9 p).cols=x::la)(hf:(fM (x::la) ⟨#[122,122]⟩).isSome=false):
  Aj (qi x.1.data.toList p)=([],12,⟨#[]⟩)∨Aj (qi x.1.data.toList p)=([x,(⟨#[122,122]⟩,1)],0,⟨#[]⟩):=by
 have hx:named ⟨#[122,122]⟩ x=false:=EK.1 hf x (awp ..);have hck:ckOf H9 (qi x.1.data.toList p)=⟨[x,(⟨#[122,122]⟩,1)],0,⟨#[]⟩⟩:=by
  unfold qi;rw[ckOf,ckAll,ckAll,CZ (by simp[hp])];simp only[awo,awG];rw[acj,hpc];unfold uy;have h1:pO (x::la) CR.zero x.1.data.toList=⟨[x],0,⟨#[]⟩⟩:=by
   unfold pO;rw[Ba,O8];have h1:CR.zero.find (x::la) x.1=CR.zero:=by unfold CR.find;rw[A8];rfl
   rw[h1];rfl
  have h2:(⟨[x],0,⟨#[]⟩⟩:CR).agg (x::la) ([122,122],fH,[])=⟨[x,(⟨#[122,122]⟩,1)],0,⟨#[]⟩⟩:=by
   have h3:(fM [x] ⟨#[122,122]⟩).isSome=false:=EK.2 λc hc=>by simp at hc;subst hc;exact hx
   unfold CR.agg;rw[if_neg ai,if_neg ai];unfold CR.add;rw[show dh ([122,122],fH,([]:By)).1=⟨#[122,122]⟩ from rfl];simp only[h3];rfl
  simp only[axj,List.foldl_nil,h1,h2];rfl
 unfold Aj;rw[hck];by_cases qF:qR (qi x.1.data.toList p)=[];rw[if_pos qF];exact .inl rfl;rw[if_neg qF,if_pos rfl];exact .inr rfl
def jM(ga gb gk:Nat)(a b:By)(m u:PM):PM:=.mk 4 [] .nil .nil ⟨some ⟨ga,0,none⟩,1,[a]⟩ ⟨some ⟨gb,0,none⟩,1,[b]⟩ .nil ↑gk 2 [m,u]
theorem aoE(ga gb gk:Nat)(a b:By)(m u:PM):(jM ga gb gk a b m u).p=vZ a b m.p u.p:=by rw[PM.sD];rfl
def gM(ga gb gk:Nat)(a:By)(m:PM):PM:=.mk 7 [] .nil .nil ⟨some ⟨ga,0,none⟩,1,[a]⟩ .nil ⟨some ⟨gb,0,none⟩,1,[([122,122],fH,[])]⟩ ↑gk 1 [m]
theorem aem(ga gb gk:Nat)(a:By)(m:PM):(gM ga gb gk a m).p=qi a m.p:=by rw[PM.sD];rfl
theorem ZF{w:ak}{g:Nat}(h:g<w.heap.size):SK 0 [] w ↑g:=λad e=>by
 injection e with e
 subst e;exact⟨aww _,h,aj⟩
theorem aen{w:ak}{ga gb gk:Nat}{a b:By}{m u:PM}(h1:Sl 1 sc w ↑ga 1 1 [a])(h2:Sl 1 sc w ↑gb 1 1 [b])(h3:Sl 8 pc w ↑gk 2 2 [m,u])(l1:ga<w.heap.size)(l2:gb<w.heap.size)(l3:gk<w.heap.size)(hm:Qx 0 [] w m)(hu:Qx 0 [] w u):Qx 0 [] w (jM ga gb gk a b m u):=by refine .mk (bg.nil ..) (λ_ h=>by cases h) (bg.nil ..) ⟨h1,ZF l1⟩ ⟨h2,ZF l2⟩ (bg.nil ..) ⟨h3,ZF l3⟩ (λk hk=>?_);simp only[awq,awU,or_false]at hk;rcases hk with rfl|rfl;exact hm;exact hu
theorem Jf{w:ak}{ga gb gk:Nat}{a:By}{m:PM}(h1:Sl 1 sc w ↑ga 1 1 [a])(h2:Sl 3 ac w ↑gb 1 1 [([122,122],fH,[])])(h3:Sl 8 pc w ↑gk 1 1 [m])(l1:ga<w.heap.size)(l2:gb<w.heap.size)(l3:gk<w.heap.size)(hm:Qx 0 [] w m):Qx 0 [] w (gM ga gb gk a m):=by refine .mk (bg.nil ..) (λ_ h=>by cases h) (bg.nil ..) ⟨h1,ZF l1⟩ (bg.nil ..) ⟨h2,ZF l2⟩ ⟨h3,ZF l3⟩ (λk hk=>?_);simp only[awq,awU,or_false]at hk;subst hk;exact hm
def qG(a:By)(v:au)(w:ak):Prop:=∃g,v=.slice (some ⟨g,0,none⟩) 1 1/\Sl 1 sc w (some ⟨g,0,none⟩) 1 1 [a]/\g<w.heap.size
theorem qG.mono(a:By):o8 (qG a):=λv w w' hE ⟨g,e,h,hl⟩=>⟨g,e,h.ev hE,awz hl hE.size⟩
def O_(v:au)(w:ak):Prop:=∃g,v=.slice (some ⟨g,0,none⟩) 1 1/\Sl 3 ac w (some ⟨g,0,none⟩) 1 1 [([122,122],fH,[])]/\g<w.heap.size
theorem O_.mono:o8 O_:=λv w w' hE ⟨g,e,h,hl⟩=>⟨g,e,h.ev hE,awz hl hE.size⟩
def sW(l:List PM)(v:au)(w:ak):Prop:=∃g,v=.slice (some ⟨g,0,none⟩) l.length l.length/\Sl 8 pc w (some ⟨g,0,none⟩) l.length l.length l/\g<w.heap.size
theorem sW.mono(l:List PM):o8 (sW l):=λv w w' hE ⟨g,e,h,hl⟩=>⟨g,e,h.ev hE,awz hl hE.size⟩
def sZ(p:Pl)(v:au)(w:ak):Prop:=∃x:PM,v=pv x/\x.p=p/\Qx 0 [] w x
theorem sZ.mono(p:Pl):o8 (sZ p):=λv w w' hE ⟨x,e,h,hq⟩=>⟨x,e,h,hq.ev hE⟩
theorem qG.new(a:ByteArray)(w:ak):qG a.data.toList (.slice ↑w.heap.size 1 1) (w.alloc (.cells #[.string a] 9)):=
 ⟨w.heap.size,rfl,Sl.made (k:=1) (enc:=sc) (λ_=>rfl) [a.data.toList] 1 rfl ai w _ 9 (by obtain⟨⟨x⟩⟩:=a;rfl),aj⟩
theorem O_.new(w:ak):O_ (.slice ↑w.heap.size 1 1) (w.alloc (.cells #[.string ⟨#[122,122]⟩,.string ⟨#[99,111,117,110,116]⟩,.string ⟨#[]⟩] 54)):=
 ⟨w.heap.size,rfl,Sl.made (k:=3) (enc:=ac) (λ_=>rfl) [([122,122],fH,[])] 1 rfl ai w _ 54 rfl,aj⟩
theorem sW.aoF(m u:PM)(w:ak):sW [m,u] (.slice ↑w.heap.size 2 2) (w.alloc (.cells ↑(m,u) 32)):=
 ⟨w.heap.size,rfl,Sl.made (k:=8) (enc:=pc) (λ_=>rfl) [m,u] 2 rfl ai w _ 32 rfl,aj⟩
theorem sW.aeo(m:PM)(w:ak):sW [m] (.slice ↑w.heap.size 1 1) (w.alloc (.cells ↑m 32)):=
 ⟨w.heap.size,rfl,Sl.made (k:=8) (enc:=pc) (λ_=>rfl) [m] 1 rfl ai w _ 32 rfl,aj⟩
def EM(A:Option Addr)(cap:Nat):Option Addr:=if cap=1 then A else Option.map (λx=>x.add 2) A
theorem Cs.tail{w:ak}{A:Option Addr}{n cap:Nat}{x:C}{l:List C}(h:Cs w A n cap (x::l)):Cs w (EM A cap) (n - 1) (cap - 1) l:=by have hl:=h.len;have hc:=h.le;rw[awr]at hl;refine⟨ae,ae,by have:=h.max;omega,λe=>?_,λh0=>?_⟩;unfold EM at e;split at e;omega;have:=h.nil (by simpa using e);omega;obtain⟨b,off,rfl,hlt,hcell⟩:=h.rd ae;unfold EM;rw[if_neg ae];refine⟨b,off+2,by rw[Option.map_some,Addr.add_lit],hlt,λi y hy j u hu=>?_⟩;have:=hcell (i+1) y (by simpa using hy) j u hu;rwa [axz,axn,Nat.add_comm (i*2) 2,<-Nat.add_assoc]at this
section
variable {α:Type} {k:Nat} {enc:α->List au} {et:TypeId} {base:Nat} {v:au}
end
theorem IM{ρ:Operand->au}{o:Oper}(ho:o.op=.buildSlice 24 0 #[])(w:ak):(execOp ρ o).run ax w=.ok (.value (.slice ↑w.heap.size 0 0)) (w.alloc (.cells #[] 50)):=by unfold execOp;rw[ho];simp[go_sem]
theorem Oa{ρ:Operand->au}{o:Oper}{x:Operand}{A:Option Addr}{n cap:Nat}{c:Operand}(ho:o.op=.slice 24 x (some c) none none)(h:ρ x=.slice A n cap)(hc:ρ c=.int .i64 1)(hk:1<=n)(w:ak):
  (execOp ρ o).run ax w=.ok (.value (.slice (EM A cap) (n - 1) (cap - 1))) w:=by
 have h1:((1:Nat):Int)<=(n:Int):=ae;have h2:(0:Int)<=((1:Nat):Int):=ae;have ht:Tryz.prog.underlying 24=some (.slice (Tryz.prog.elem 24)):=ah;have hs:(sizeOf (Tryz.prog.elem 24)).run ax w=.ok 2 w:=ah;unfold execOp;rw[ho];have hl:=run_slice_l w 24 A n cap ht .i64 ((1:Nat):Int) h2 h1;rw[show ((1:Nat):Int)=1 from rfl]at hl;simp[h,hc,run_sliceAt_slice w 24 _ _ _ _ ht,hl,hs,Result.andThen,sliced,EM,Addr.add]
theorem GH{b:Nat}{v:au}{w:ak}{ρ:Operand->au}{o:Oper}{s x:Operand}(ho:o.op=.call {callee:=.builtin .append,args:=#[s,x],argTypes:=#[24,24]})(hs:ρ s=v)(hv:iZ 50 b v w)
  {A:Option Addr} {m c:Nat} {l:List C} (hx:ρ x=.slice A m c) (hB:Cs w A m c l) (hl:l.length<=1000) (hb:b<=w.heap.size):
  ∃v' w',(execOp ρ o).run ax w=.ok (.value v') w'/\Ow 50 2 dZ b w' v' l/\Ev w w':=by
 obtain⟨v',w',hr,h2,h3⟩:=pI (P:=ax) nV 24 o.type underlying24 Tryz.D_ rfl hv A m c l hB ae ae hb;refine⟨v',w',?_,h2,h3⟩;unfold execOp;simp only[ho,resolve,invoke,builtin,Sem.run_bind,Sem.run_pure,Result.andThen_ok,axl,awo,awG,hs,hx,hr]
theorem IP{b:Nat}{v:au}{w:ak}{Z:List C}{ρ:Operand->au}{o:Oper}{s x:Operand}(ho:o.op=.call {callee:=.builtin .append,args:=#[s,x],argTypes:=#[24,24]})(hs:ρ s=v)(hv:Ow 50 2 dZ b w v Z)
  {A:Option Addr} {m c:Nat} {l:List C} (hx:ρ x=.slice A m c) (hB:Cs w A m c l) (hl:Z.length+l.length<=1000) (hb:b<=w.heap.size):
  ∃v' w',(execOp ρ o).run ax w=.ok (.value v') w'/\Ow 50 2 dZ b w' v' (Z++l)/\But (foot v) w w':=by
 obtain⟨v',w',hr,h2,h3,_⟩:=j_ (P:=ax) nV 24 o.type underlying24 Tryz.D_ rfl hv A m c l hB ae ae hb;refine⟨v',w',?_,h2,h3⟩;unfold execOp;simp only[ho,resolve,invoke,builtin,Sem.run_bind,Sem.run_pure,Result.andThen_ok,axl,awo,awG,hs,hx,hr]
theorem Uz{l:List C}(h:kY l){c:C}(hc:c∈l):iC c.1.data.toList=true:=by show fK (dh c.1.data.toList)=true;rw[Ba];exact(h.each c hc).1
theorem QX{T:TypeId}{ρ:Operand->au}{o:Oper}{x y:Operand}{a b:Int}(ho:o.op=.binOp .add T x y T)(hx:ρ x=↑a)(hy:ρ y=↑b)(h1:0<=a+b)(h2:a+b<=1000000000)(w:ak):
  (execOp ρ o).run ax w=.ok (.value (.int .i64 (a+b))) w:=by
 unfold execOp;rw[ho];simp[hx,hy,go_sem];exact IntWalk.i64_in _ ae
theorem QY{T:TypeId}{ρ:Operand->au}{o:Oper}{x y:Operand}{n i:Nat}(ho:o.op=.binOp .sub T x y T)(hx:ρ x=.int .i64 ((n:Int)+(i:Int)))(hy:ρ y=.int .i64 1)(h1:1<=i)(h2:n+i<=1000000000)(w:ak):
  (execOp ρ o).run ax w=.ok (.value (.int .i64 ((n+i - 1:Nat):Int))) w:=by
 unfold execOp;rw[ho];simp[hx,hy,go_sem];rw[IntWalk.i64_in _ ae];omega
theorem ack{pre lb:List C}{i:Nat}(hi:1<=i):(pre++lb).take (pre.length+i - 1)=pre++lb.take (i - 1):=by rw[List.take_append,awC ae];congr 2;omega
theorem aep{pre lb:List C}{i:Nat}{c:C}(hi:1<=i)(hc:lb[i - 1]?=some c)(hne:∀x∈lb,x.1≠⟨#[]⟩):
  tk pre (lb.take i)=if tk pre (lb.take (i - 1))=⟨#[]⟩ then (if (fM (pre++lb.take (i - 1)) c.1).isSome then c.1 else ⟨#[]⟩) else tk pre (lb.take (i - 1)):=by
 obtain⟨h1,h2⟩:=awi.1 hc;have e:lb.take i=lb.take (i - 1)++[c]:=by have:=aws h1;rw[show i - 1+1=i by omega,h2]at this;exact this
 rw[e,X0 _ _ _ λx hx=>hne x (axo hx)]
theorem Pe{s:ByteArray}(h:s.size=0):s=⟨#[]⟩:=by
 obtain⟨⟨l⟩⟩:=s
 cases l with
 | nil=>rfl
 | cons _ _=>cases h
theorem eu{w:ak}{ab ao n cap:Nat}{x:C}{l:List C}(h:Cs w ↑(ab,ao) n cap (x::l)):w.cell? ⟨ab,ao,none⟩=some (.string x.1)/\w.cell? ⟨ab,ao+1,none⟩=some (.int .i64 x.2):=by obtain⟨_,_,e,h0,h1⟩:=Cs.zM h (i:=0) (c:=x) rfl;cases e;simp only[awW,awM]at h0 h1;exact⟨h0,h1⟩
theorem aeq{w:ak}{ab ao n cap i:Nat}{c:C}{l:List C}(h:Cs w ↑(ab,ao) n cap l)(hc:l[i]?=some c):w.cell? ⟨ab,ao+i*2,none⟩=some (.string c.1):=by obtain⟨_,_,e,h0,_⟩:=Cs.zM h hc;cases e;exact h0
theorem Jg(x:C)(w:ak):Cs (w.alloc (.cells #[.string x.1,.int .i64 x.2,.string ⟨#[122,122]⟩,.int .i64 1] 50)) ↑w.heap.size 2 2 [x,(⟨#[122,122]⟩,1)]:=Sl.made (enc:=dZ) (λ_=>rfl) _ 2 rfl ai w _ _ rfl
theorem aer(w:ak)(m u:PM):∃w0,(w.alloc (.cells ↑m 32)).alloc (.cells ↑u 32)=w0/\Ev w w0/\Bx 32 w.heap.size ↑m w0/\Bx 32 (w.heap.size+1) ↑u w0:=by have hB:=Bx.new 32 ↑u (w.alloc (.cells ↑m 32));rw[show (w.alloc (.cells ↑m 32)).heap.size=w.heap.size+1 by simp]at hB;exact⟨_,rfl,(Ev.alloc w _).trans az,(Bx.new _ _ w).ev az,hB⟩
theorem UA(s:By)(h:(Ap s).2.1=0):(1<=(Ap s).1.length/\(Ap s).1.length<=6)/\kY (Ap s).1:=by unfold Ap at h|-;by_cases h0:(dF s).2.1=0;rw[if_pos h0]at h|-;have hW:=Dz s h0;rw[hW.Aj]at h|-;by_cases hw:(ckOf H9 (dF s).1).why=0;rw[if_pos hw];obtain⟨h1,h2,h3⟩:=DC O6 _ hW.wr.good hw;exact⟨⟨h2,h3⟩,h1⟩;rw[if_neg hw]at h;exact absurd h hw;rw[if_neg h0]at h;exact absurd h ai
end Go.Proofs.YtpbfokkocaemlaaGreatDoor
