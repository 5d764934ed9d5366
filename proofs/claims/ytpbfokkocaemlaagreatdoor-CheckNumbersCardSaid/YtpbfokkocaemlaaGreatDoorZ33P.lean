import Derived.Test.YtpbfokkocaemlaaGreatDoorZ32P
set_option linter.unusedVariables false
set_option maxRecDepth 100000
set_option maxHeartbeats 64000000
namespace Go.Proofs.YtpbfokkocaemlaaGreatDoor
open Go.RowKit
open Go.Lib renaming hid → zq
open Go renaming World → ak
open Go renaming Value → au
open Go.Proofs.Tryz renaming prog → ax
variable {U:Prop}
open Go.Proofs.Tryz
theorem aBM(h:U:=by go_enter func127,ntmps127;go_wp2;refine ayw 1 ?_;rw[ayx];go_wp2;go_end0;exact⟨rfl,rfl⟩):U:=h
theorem al6(go gb:Nat)(w:ak):Calls ax 127 #[.slice ↑go 1 1,.int .i64 0,.int .i64 1,.func (.func 49) #[] #[.pointer ↑gb]] w λe w'=>e=.returned (.tuple #[])/\w'=w:=by exact aBM
theorem azW(h:U:=by
 go_enter func93,ntmps93;go_wp2;refine ayw 1 ?_;rw[ayx]
 go_wp2_with ((with_reducible refine(HI.out).mono ?_);rintro e w1 ⟨rfl,rfl⟩)
 (try simp only[Exit.inBlock,Exit.then]);refine ayr (results_none rfl _ _ _) rfl ?_;exact⟨rfl,rfl⟩):U:=h
theorem al7(go gb:Nat)(lim:Int)(w:ak):Calls ax 93 #[.slice ↑go 1 1,.int .i64 0,.int .i64 1,↑lim,.func (.func 49) #[] #[.pointer ↑gb]] w λe w'=>e=.returned (.tuple #[])/\w'=w:=by have HI:=zq (al6 go gb w);exact azW
theorem az8(h:U:=by
 go_enter func48,ntmps48
 go_wp2_with (first
  | ((with_reducible refine(HL.out _).mono ?_);rintro e w1 ⟨k,rfl,rfl⟩)
  | ((with_reducible refine(HP.out _).mono ?_);rintro e w1 ⟨rfl,rfl⟩))
 go_end0;exact⟨rfl,rfl⟩):U:=h
theorem sort_1(go gb:Nat)(w:ak):Calls ax 48 #[.slice ↑go 1 1,.func (.func 49) #[] #[.pointer ↑gb]] w λe w'=>e=.returned (.tuple #[])/\w'=w:=by
 have HP:=zq (λlim=>al7 go gb lim w);have HL:Hid (∀w1,Calls ax 94 #[.int .u64 1] w1 λe w'=>∃k:Int,e=.returned ↑k/\w'=w1):=zq λw1=>(EU 1 w1 ae).mono λe w' h=>⟨_,h.1,h.2⟩
 exact az8
theorem ai1(u:ak):(Instr.makeSlice 88 (.int .i64 1) (.int .i64 1)).run ax u=.ok (.slice ↑u 1 1) (u.alloc (.cells #[.int .i64 0] 3)):=by obtain⟨i0,hi,hz0,hz1,hz2⟩:=info_parts Tryz.EX;have h:=run_make (P:=ax) u 88 3 i0 _ underlying88 hi hz0 .i64 .i64 1 1 ae (Int.le_refl _) (by rw[hz2];omega) ae;rw[hz1,show madeCells (Value.int .i64 0).cells (Int.toNat 1*1)=#[.int .i64 0] by kernel_rfl]at h;exact h
theorem azL(h:U:=by
 have l5:=(zN.out.cell (p:=⟨↑w,0,none⟩) (show w.heap.size<w0.heap.size by omega)).trans hl0;clear hl0
 go_wp2_with ((with_reducible refine(HS.out).mono ?_);rintro e w6 ⟨rfl,rfl⟩)
 refine ayw 1 ?_;rw[ayx];go_wp2;go_ret;exact⟨rfl,cu.out.trans zN.out⟩):U:=h
theorem agY(bd:Nat)(w:ak):Calls ax 25 #[.slice ↑bd 1 1] w λe w'=>e=.returned (.int .i64 1)/\Ev w w':=by
 have hmf:∀(fn:Fn) (first cap:Array au) (w:ak),(Instr.makeFunc fn first cap).run ax w=.ok (.func fn first cap) w:=λ_ _ _ _=>rfl;obtain⟨w0,hw0,aV,QQ,hs0⟩:=Yo w (.slice ↑bd 1 1);have hl0:w0.cell? ⟨↑w,0,none⟩=some (.slice ↑bd 1 1):=QQ.cell 0;have cu:=zq aV;have hB1:=Bx.new 3 #[.int .i64 0] w0;have o0:=hB1.cell 0;have z0:=hB1.frozen 0;have hmk:=ai1 w0;clear QQ aV hB1;go_enter func25,ntmps25;go_wp2;refine ayw 2 ?_;rw[ayx];go_wp2;rw[ayx];go_upto_region 7 with fail
 obtain⟨w5,FD⟩:∃w5,w5=w0.alloc (.cells #[.int .i64 0] 3):=⟨_,rfl⟩
 rw[<-FD];have kH:Ev w0 w5:=by rw[FD];exact Ev.alloc _ _
 have zN:=zq kH;have HS:=zq (sort_1 (w.heap.size+1) w.heap.size w5);have hg5:w.heap.size<w5.heap.size:=awU ae kH.size;clear FD kH hmk hw0 o0 z0;exact azL
theorem al8(go gb:Nat)(w:ak):Calls ax 127 #[.slice ↑go 0 0,.int .i64 0,.int .i64 0,.func (.func 49) #[] #[.pointer ↑gb]] w λe w'=>e=.returned (.tuple #[])/\w'=w:=by exact aBM
theorem al9(go gb:Nat)(lim:Int)(w:ak):Calls ax 93 #[.slice ↑go 0 0,.int .i64 0,.int .i64 0,↑lim,.func (.func 49) #[] #[.pointer ↑gb]] w λe w'=>e=.returned (.tuple #[])/\w'=w:=by have HI:=zq (al8 go gb w);exact azW
theorem ai2(go gb:Nat)(w:ak):Calls ax 48 #[.slice ↑go 0 0,.func (.func 49) #[] #[.pointer ↑gb]] w λe w'=>e=.returned (.tuple #[])/\w'=w:=by
 have HP:=zq (λlim=>al9 go gb lim w);have HL:Hid (∀w1,Calls ax 94 #[.int .u64 0] w1 λe w'=>∃k:Int,e=.returned ↑k/\w'=w1):=zq λw1=>(EU 0 w1 ae).mono λe w' h=>⟨_,h.1,h.2⟩
 exact az8
theorem ai3(u:ak):(Instr.makeSlice 88 (.int .i64 0) (.int .i64 0)).run ax u=.ok (.slice ↑u 0 0) (u.alloc (.cells #[] 3)):=by obtain⟨i0,hi,hz0,hz1,hz2⟩:=info_parts Tryz.EX;have h:=run_make (P:=ax) u 88 3 i0 _ underlying88 hi hz0 .i64 .i64 0 0 ae (Int.le_refl _) (by rw[hz2];omega) ae;rw[hz1,show madeCells (Value.int .i64 0).cells (Int.toNat 0*1)=#[] by kernel_rfl]at h;exact h
theorem al_(w:ak):Calls ax 25 #[↑()] w λe w'=>e=.returned (.int .i64 0)/\Ev w w':=by
 have hmf:∀(fn:Fn) (first cap:Array au) (w:ak),(Instr.makeFunc fn first cap).run ax w=.ok (.func fn first cap) w:=λ_ _ _ _=>rfl;obtain⟨w0,hw0,aV,QQ,hs0⟩:=Yo w ↑();have hl0:w0.cell? ⟨↑w,0,none⟩=some ↑():=QQ.cell 0;have cu:=zq aV;have hB1:=Bx.new 3 #[] w0;have hmk:=ai3 w0;clear QQ aV hB1;go_enter func25,ntmps25;go_wp2;refine ayw 1 ?_;rw[ayx];go_upto_region 7 with fail
 obtain⟨w5,FD⟩:∃w5,w5=w0.alloc (.cells #[] 3):=⟨_,rfl⟩
 rw[<-FD];have kH:Ev w0 w5:=by rw[FD];exact Ev.alloc _ _
 have zN:=zq kH;have HS:=zq (ai2 (w.heap.size+1) w.heap.size w5);have hg5:w.heap.size<w5.heap.size:=awU ae kH.size;clear FD kH hmk hw0;exact azL
theorem XA(bd jJ:Nat)(A0 A1 A2:Option Addr)(w:ak)(hD:pV w ↑bd 3 jJ [⟨[116],A0,3,gZ⟩,⟨[117],A1,2,nN⟩,⟨[116],A2,3,gZ⟩]):Calls ax 13 #[.slice ↑bd 3 jJ] w λe w'=>e=.returned (.int .i64 21)/\Ev w w':=by
 have hcp:=hD.sl.le;have hcm:=hD.sl.max;have HR:=zq (aaA bd jJ _ _ _ w hD (by rfl) (by rfl) (aiY _ _ none none _ _ _ _) (aiZ _ _ none none _ _ _ _) (ai0 _ _ none none _ _ _ _));have HN:Hid (∀w1,Ev w w1->bd<w1.heap.size/\w1.cell? ⟨bd,0,none⟩=some (.string ⟨#[116]⟩)/\w1.cell? ⟨bd,1,none⟩=some (.slice A0 3 3)/\w1.cell? ⟨bd,2,none⟩=some (.string ⟨#[117]⟩)/\w1.cell? ⟨bd,3,none⟩=some (.slice A1 2 2)/\w1.cell? ⟨bd,4,none⟩=some (.string ⟨#[116]⟩)/\w1.cell? ⟨bd,5,none⟩=some (.slice A2 3 3)):=zq λw1 hE=>by
  have h1:=hD.ev hE;obtain⟨b0,o0,e0,hbl,c0,c1⟩:=h1.cell (i:=0) (d:=⟨[116],A0,3,gZ⟩) rfl;injection e0 with e0
  injection e0 with a0 u0 _
  obtain⟨b1,o1,e1,_,c2,c3⟩:=h1.cell (i:=1) (d:=⟨[117],A1,2,nN⟩) rfl;injection e1 with e1
  injection e1 with a1 u1 _
  obtain⟨b2,o2,e2,_,c4,c5⟩:=h1.cell (i:=2) (d:=⟨[116],A2,3,gZ⟩) rfl;injection e2 with e2
  injection e2 with a2 u2 _
  subst a0 u0 a1 u1 a2 u2;exact⟨hbl,c0,c1,c2,c3,c4,c5⟩
 have HN0:=zq (λw1=>nK ⟨#[116]⟩ w1);rw[show f_ ⟨#[116]⟩=true from Uy]at HN0;have HN1:=zq (λw1=>nK ⟨#[117]⟩ w1);rw[show f_ ⟨#[117]⟩=true from acT]at HN1;have Qe:=zq (λw1=>nK ⟨#[116]⟩ w1);rw[show f_ ⟨#[116]⟩=true from Uy]at Qe;have HC0:Hid (∀w1,Ev w w1->Calls ax 15 #[.slice A0 3 3] w1 λe w'=>e=.returned (.int .i64 (qh gZ))/\Ev w1 w'):=zq (λw1 (hE:Ev w w1)=>sU w1 ((hD.cols ⟨[116],A0,3,gZ⟩ aj).ev hE));rw[ain]at HC0;have HC1:Hid (∀w1,Ev w w1->Calls ax 15 #[.slice A1 2 2] w1 λe w'=>e=.returned (.int .i64 (qh nN))/\Ev w1 w'):=zq (λw1 (hE:Ev w w1)=>sU w1 ((hD.cols ⟨[117],A1,2,nN⟩ aj).ev hE));rw[aio]at HC1;clear hD;go_enter func13,ntmps13
 go_wp2_with ((with_reducible refine(HR.out).mono ?_);rintro e w1 ⟨rfl,aN⟩;have cu:=zq aN;obtain⟨hbl,c0,c1,c2,c3,c4,c5⟩:=HN.out w1 aN;clear aN)
 refine ayw 4 ?_;rw[ayx];have hX:=Bx.new 42 #[.string ⟨#[116]⟩,.slice A0 3 3] w1;obtain⟨⟨b0,b1⟩,_⟩:=hX.two
 go_wp2_with (first
  | ((with_reducible refine(HN0.out _).mono ?_);rintro e wn0 ⟨rfl,hE⟩;have E2:=zq (cu.out.trans ((Ev.alloc w1 _).trans hE));clear b0 b1;obtain⟨⟨b0,b1⟩,_⟩:=(hX.ev hE).two;clear hE)
  | ((with_reducible refine(HC0.out _ E2.out).mono ?_);rintro e wc0 ⟨rfl,hE⟩;have oK:=zq (E2.out.trans hE);clear hbl c0 c1 c2 c3 c4 c5;obtain⟨hbl,c0,c1,c2,c3,c4,c5⟩:=HN.out wc0 oK.out;clear hE E2))
 clear hX b0 b1;rw[ayx];have hX:=Bx.new 42 #[.string ⟨#[117]⟩,.slice A1 2 2] wc0;obtain⟨⟨b0,b1⟩,_⟩:=hX.two
 go_wp2_with (first
  | ((with_reducible refine(HN1.out _).mono ?_);rintro e wn1 ⟨rfl,hE⟩;have E2:=zq (oK.out.trans ((Ev.alloc wc0 _).trans hE));clear b0 b1;obtain⟨⟨b0,b1⟩,_⟩:=(hX.ev hE).two;clear hE)
  | ((with_reducible refine(HC1.out _ E2.out).mono ?_);rintro e wc1 ⟨rfl,hE⟩;have lH:=zq (E2.out.trans hE);clear hbl c0 c1 c2 c3 c4 c5;obtain⟨hbl,c0,c1,c2,c3,c4,c5⟩:=HN.out wc1 lH.out;clear hE E2))
 clear hX b0 b1;rw[ayx];have hX:=Bx.new 42 #[.string ⟨#[116]⟩,.slice A2 3 3] wc1;obtain⟨⟨b0,b1⟩,_⟩:=hX.two
 go_wp2_with (first
  | ((with_reducible refine(Qe.out _).mono ?_);rintro e wn2 ⟨rfl,hE⟩;have E2:=zq (lH.out.trans ((Ev.alloc wc1 _).trans hE));clear b0 b1;obtain⟨⟨b0,b1⟩,_⟩:=(hX.ev hE).two;clear hE))
 go_ret;exact⟨rfl,E2.out⟩
theorem aaB:qh []=23:=by decide+kernel
theorem adC(bd:Nat)(w:ak)(hD:pV w ↑bd 1 1 [⟨[116],none,0,[]⟩]):Calls ax 13 #[.slice ↑bd 1 1] w λe w'=>e=.returned (.int .i64 23)/\Ev w w':=by
 have hcp:=hD.sl.le;have hcm:=hD.sl.max;have HR:=zq (agY bd w);have HN:Hid (∀w1,Ev w w1->bd<w1.heap.size/\w1.cell? ⟨bd,0,none⟩=some (.string ⟨#[116]⟩)/\w1.cell? ⟨bd,1,none⟩=some ↑()):=zq λw1 hE=>by
  have h1:=hD.ev hE;obtain⟨b0,o0,e0,hbl,c0,c1⟩:=h1.cell (i:=0) (d:=⟨[116],none,0,[]⟩) rfl;injection e0 with e0
  injection e0 with a0 u0 _
  subst a0 u0;exact⟨hbl,c0,c1⟩
 have HN0:=zq (λw1=>nK ⟨#[116]⟩ w1);rw[show f_ ⟨#[116]⟩=true from Uy]at HN0;have HC0:Hid (∀w1,Ev w w1->Calls ax 15 #[↑()] w1 λe w'=>e=.returned (.int .i64 (qh []))/\Ev w1 w'):=zq (λw1 (hE:Ev w w1)=>sU w1 ((hD.cols ⟨[116],none,0,[]⟩ aj).ev hE));rw[aaB]at HC0;clear hD;go_enter func13,ntmps13
 go_wp2_with ((with_reducible refine(HR.out).mono ?_);rintro e w1 ⟨rfl,aN⟩;have cu:=zq aN;obtain⟨hbl,c0,c1⟩:=HN.out w1 aN;clear aN)
 refine ayw 2 ?_;rw[ayx];have hX:=Bx.new 42 #[.string ⟨#[116]⟩,↑()] w1;obtain⟨⟨b0,b1⟩,_⟩:=hX.two
 go_wp2_with (first
  | ((with_reducible refine(HN0.out _).mono ?_);rintro e wn0 ⟨rfl,hE⟩;have E2:=zq (cu.out.trans ((Ev.alloc w1 _).trans hE));clear b0 b1;obtain⟨⟨b0,b1⟩,_⟩:=(hX.ev hE).two;clear hE)
  | ((with_reducible refine(HC0.out _ E2.out).mono ?_);rintro e wc0 ⟨rfl,hE⟩;have oK:=zq (E2.out.trans hE);clear hbl c0 c1;obtain⟨hbl,c0,c1⟩:=HN.out wc0 oK.out;clear hE E2))
 go_ret;exact⟨rfl,oK.out⟩
theorem adD(bd:Nat)(w:ak)(hD:pV w ↑bd 1 1 [⟨[88],none,0,[]⟩]):Calls ax 13 #[.slice ↑bd 1 1] w λe w'=>e=.returned (.int .i64 20)/\Ev w w':=by
 have hcp:=hD.sl.le;have hcm:=hD.sl.max;have HR:=zq (agY bd w);have HN:Hid (∀w1,Ev w w1->bd<w1.heap.size/\w1.cell? ⟨bd,0,none⟩=some (.string ⟨#[88]⟩)/\w1.cell? ⟨bd,1,none⟩=some ↑()):=zq λw1 hE=>by
  have h1:=hD.ev hE;obtain⟨b0,o0,e0,hbl,c0,c1⟩:=h1.cell (i:=0) (d:=⟨[88],none,0,[]⟩) rfl;injection e0 with e0
  injection e0 with a0 u0 _
  subst a0 u0;exact⟨hbl,c0,c1⟩
 have HN0:=zq (λw1=>nK ⟨#[88]⟩ w1);rw[show f_ ⟨#[88]⟩=false from by decide+kernel]at HN0;clear hD;go_enter func13,ntmps13
 go_wp2_with ((with_reducible refine(HR.out).mono ?_);rintro e w1 ⟨rfl,aN⟩;have cu:=zq aN;obtain⟨hbl,c0,c1⟩:=HN.out w1 aN;clear aN)
 refine ayw 2 ?_;rw[ayx];have hX:=Bx.new 42 #[.string ⟨#[88]⟩,↑()] w1;obtain⟨⟨b0,b1⟩,_⟩:=hX.two
 go_wp2_with (first
  | ((with_reducible refine(HN0.out _).mono ?_);rintro e wn0 ⟨rfl,hE⟩;have E2:=zq (cu.out.trans ((Ev.alloc w1 _).trans hE));clear b0 b1;obtain⟨⟨b0,b1⟩,_⟩:=(hX.ev hE).two;clear hE))
 go_ret;exact⟨rfl,E2.out⟩
theorem aaC(w:ak):Calls ax 13 #[↑()] w λe w'=>e=.returned (.int .i64 0)/\Ev w w':=by have HR:=zq (al_ w);go_enter func13,ntmps13;go_wp2_with ((with_reducible refine(HR.out).mono ?_);rintro e w1 ⟨rfl,aN⟩);refine ayw 1 ?_;rw[ayx];go_wp2;go_ret;exact⟨rfl,aN⟩
theorem out_bad(bd:Nat)(w:ak)(hD:pV w ↑bd 1 1 [⟨[88],none,0,[]⟩]):Calls ax 7 #[.agg ↑Zz.b,.slice ↑bd 1 1] w λe w'=>e=.returned (.tuple #[↑(),.int .i64 1,.string ⟨#[]⟩])/\Ev w w':=by
 have Vg:=zq (λw1 (hE:Ev w w1)=>adD bd w1 (hD.ev hE));obtain⟨w0,hw0,aV,hB,_⟩:=vV w (.mk 0 [] .nil .nil .nil .nil .nil none 0 []);have HE:=zq aV;clear hD hB aV;have hw0:w.alloc (.cells ↑Zz.b 32)=w0:=hw0;go_enter func7,ntmps7
 go_wp2_with (first
  | ((with_reducible refine(Vg.out _ HE.out).mono ?_);rintro e w1 ⟨rfl,aN⟩;have E1:=zq (HE.out.trans aN);clear aN))
 go_ret3
 exact⟨rfl,E1.out⟩
theorem aaD(w:ak):Calls ax 9 #[] w λe w'=>∃g,g=w.heap.size/\e=.returned (.slice (some ⟨g+2,0,none⟩) 2 2)/\Ev w w'/\pV w' (some ⟨g+2,0,none⟩) 2 2 (zI g)/\Ow 42 2 dc w.heap.size w' (.slice (some ⟨g+2,0,none⟩) 2 2) (zI g):=by
 have hT:=Cs.made gZ 3 rfl ai w _ rfl;have hU:=Cs.made nN 2 rfl ai (w.alloc (.cells (gZ.flatMap dM).toArray 50)) _ rfl;obtain⟨wa,zy⟩:∃wa,wa=(w.alloc (.cells (gZ.flatMap dM).toArray 50)).alloc (.cells (nN.flatMap dM).toArray 50):=⟨_,rfl⟩
 have hD:=Sl.made (k:=2) (enc:=dc) (λ_=>rfl) (zI w.heap.size) 2 rfl ai wa _ 42 rfl;have hsz:wa.heap.size=w.heap.size+2:=by rw[zy];simp
 have hO:=Ow.made (et:=42) (base:=w.heap.size) Qm wa (zI w.heap.size) ((zI w.heap.size).flatMap dc).toArray (by simp[cl]) ae (by show 2<=1000000;omega);have aN:=Ev.alloc w (.cells (gZ.flatMap dM).toArray 50);have bM:=Ev.alloc (w.alloc (.cells (gZ.flatMap dM).toArray 50)) (.cells (nN.flatMap dM).toArray 50);rw[<-zy]at bM;have dV:=Ev.alloc wa (.cells ((zI w.heap.size).flatMap dc).toArray 42);rw[hsz]at hO hD;rw[<-zy]at hU;have HF:pV (wa.alloc (.cells ((zI w.heap.size).flatMap dc).toArray 42)) (some ⟨w.heap.size+2,0,none⟩) 2 2 (zI w.heap.size):=by refine⟨hD,λd hd=>?_⟩;exact aAh
 have HF:=zq HF;have HE:=zq ((aN.trans bM).trans dV);have HO:=zq hO;clear hT hU hD aN bM dV hO hsz;subst zy;go_enter func9,ntmps9;go_wp2;go_ret;exact⟨_,rfl,rfl,HE.out,HF.out,HO.out⟩
theorem Tryz.adE:(Tryz.prog.info? 42).map (λi=>(i.zero,i.size,i.bytes))=some (some (.agg #[.string ⟨#[]⟩,↑()]),2,40):=ah
theorem aaE(w:ak):Calls ax 6 #[] w λe w'=>∃g,e=.returned (.slice (some ⟨g,0,none⟩) 40 40)/\Ev w w'/\Ss w' (some ⟨g,0,none⟩) 40 40 kX:=by
 have hS:=Sl.made (k:=1) (enc:=sc) (λ_=>rfl) kX 40 rfl ai w (kX.flatMap sc).toArray 9 rfl;have hc:(kX.flatMap sc).toArray=(kX.map λl=>Value.string ⟨l.toArray⟩).toArray:=by rfl
 have HE:=zq (Ev.alloc w (.cells (kX.flatMap sc).toArray 9));have HS:=zq hS;clear hS hc;go_enter func6,ntmps6;go_wp2;go_ret;exact⟨_,rfl,HE.out,HS.out⟩
theorem adF(g:Nat):acV (zI g) where
 name:=λd hd=>by unfold zI at hd;rcases awN.1 hd with rfl|hd;exact Uy;simp at hd;subst hd;exact acT
 cols:=λd hd=>by unfold zI at hd;rcases awN.1 hd with rfl|hd;exact ain;simp at hd;subst hd;exact aio
 small:=λd hd=>by unfold zI at hd;rcases awN.1 hd with rfl|hd;exact⟨by show ([116]:By).length<=1000;decide,by show ∀c∈gZ,c.1.size<=maxLen;decide+kernel⟩;simp at hd;subst hd;exact⟨by show ([117]:By).length<=1000;decide,by show ∀c∈nN,c.1.size<=maxLen;decide+kernel⟩
 apart:=λi j x y hji hx hy=>by
  have hi:=(awz.1 hx).1;have h2:(zI g).length=2:=rfl;obtain rfl:i=1:=ae;obtain rfl:j=0:=ae;injection hx with hx
  injection hy with hy
  subst hx hy;rfl
theorem Fj{α:Type}{k:Nat}{enc:α->List au}{et:TypeId}{base:Nat}{w:ak}{v:au}{Z:List α}{P:Program}{ops:Array Oper}{rest:List Oper}{o:Oper}{a:Act}{Q:Exit->Act->ak->Prop}(hgd:Region.wanted o (yielded ops a.tmps)=true)(T:TypeId)(s x:Operand)
  (ho:o.op=.call {callee:=.builtin .append,args:=#[s,x],argTypes:=#[T,T]}) (E:Enc k enc)
  (ht:P.underlying T=some (.slice et)) {zero:au} {bytes:Nat} (hi:(P.info? et).map (λi=>(i.zero,i.size,i.bytes))=some (some zero,k,bytes)) (hz:zero.cells.size=k)
  (hs:a.eval s=v) (hown:Ow et k enc base w v Z) (A:Option Addr) (m c:Nat) (l:List α) (hx:a.eval x=.slice A m c) (hB:Sl k enc w A m c l)
  (hbytes:(Z.length+l.length)*bytes<=140737488355328) (hsm:Z.length+l.length<=1000000000) (hbase:base<=w.heap.size)
  (h:∀v' w',mf et k enc base w v (Z++l) v' w'->wpList P ops Q rest (a.put o.dst v') w'):wpList P ops Q (o::rest) a w:=by
 refine BigFrame.wpList_want hgd λK hK=>?_;obtain⟨v',w',hr,h2,h3,h4,_⟩:=jq (P:=P) E T o.type ht hi hz hown A m c l hB hbytes hsm hbase;unfold Oper.wp execOp;simp only[ho,resolve,invoke,builtin,ayn,ayo,ayp,axF,awI,awY,hs,hx,hr];exact hK _ _ (h v' w' ⟨h2,h3,h4⟩)
theorem YB(w:ak)(s:By):pV (w.alloc (.cells #[↑s,↑()] 42)) ↑w 1 1 [⟨s,none,0,[]⟩]:=
 ⟨Sl.one Qm w _ _ rfl,λd hd=>by simp at hd;subst hd;exact Sl.nil_ _⟩
theorem adG{g:Nat}{w:ak}(h:pV w (some ⟨g+2,0,none⟩) 2 2 (zI g)):w.cell? ⟨g+2,0,none⟩=some (.string ⟨#[116]⟩)/\w.cell? ⟨g+2,1,none⟩=some (.slice ↑g 3 3):=by
 obtain⟨b,off,e,_,c0,c1⟩:=h.cell (i:=0) (d:=⟨[116],some ⟨g,0,none⟩,3,gZ⟩) rfl;injection e with e
 injection e with e1 e2
 subst e1 e2;exact⟨c0,c1⟩
theorem adH{g1 g2:Nat}{w w':ak}{v':au}(Oo:pV w (some ⟨g1+2,0,none⟩) 2 2 (zI g1))(hT:Cs w ↑g2 3 3 gZ)(hg:g1+2<g2)
  (hA:mf 42 2 dc 0 w (.slice (some ⟨g1+2,0,none⟩) 2 2) (zI g1++[⟨[116],some ⟨g2,0,none⟩,3,gZ⟩]) v' w'):
  ∃bd cap,v'=.slice (some ⟨bd,0,none⟩) 3 cap/\pV w' (some ⟨bd,0,none⟩) 3 cap [⟨[116],some ⟨g1,0,none⟩,3,gZ⟩,⟨[117],some ⟨g1+1,0,none⟩,2,nN⟩,⟨[116],some ⟨g2,0,none⟩,3,gZ⟩]:=by
 obtain⟨hO,hB,_⟩:=hA;have hl:(zI g1++[(⟨[116],some ⟨g2,0,none⟩,3,gZ⟩:DM)]).length=3:=rfl;obtain⟨A,cap,hv,hS,xJ⟩:=hO.form Qm;rw[hl]at hv hS
 cases A with
 | none=>exact absurd (hS.nil rfl).1 ai
 | some ad=>
  obtain⟨_,_,_,had,_⟩:=xJ ad rfl;rw[had]at hv hS;refine⟨ad.block,cap,hv,hS,λd hd=>?_⟩;have hf:foot (.slice (some ⟨g1+2,0,none⟩) 2 2)=[g1+2]:=rfl;rw[hf]at hB;have hd:d∈zI g1++[(⟨[116],some ⟨g2,0,none⟩,3,gZ⟩:DM)]:=hd;rcases awV.1 hd with hd|hd;refine(Oo.cols d hd).but hB λx hx=>?_;unfold zI at hd;rcases awN.1 hd with rfl|hd;injection hx with hx
  subst hx;simp;simp at hd;subst hd;injection hx with hx
  subst hx;simp;simp at hd;subst hd;refine hT.but hB λx hx=>?_;injection hx with hx
  subst hx;simp;omega
structure CnS(w:ak)(g:Nat)(wr:ak):Prop where
 txt:Ss wr ↑g 40 40 kX
 all:Ev w wr
theorem CnS.ev{w:ak}{g:Nat}{wr ws:ak}(h:CnS w g wr)(hE:Ev wr ws):CnS w g ws:=⟨h.txt.ev hE,h.all.trans hE⟩
theorem CnS.cell{w:ak}{g:Nat}{wr:ak}(h:CnS w g wr){k:Nat}{s:By}(hs:kX[k]?=some s):wr.cell? ⟨g,k,none⟩=some ↑s:=by
 obtain⟨b,off,e,hlt,hc⟩:=h.txt.rd ai;injection e with e
 injection e with e1 e2
 subst e1 e2;have:=hc k s hs 0 _ rfl;simpa using this
theorem afU(w:ak)(hT:Tab w):Calls ax 3 #[] w λe w'=>e=.returned (.bool true)/\Ev w w':=by
 have HTX:=zq aaE;have Vg:=zq Ux;have QM:=zq hT;clear hT;go_enter func3,ntmps3
 go_wp2_with ((with_reducible refine(HTX.out _).mono ?_);rintro e w1 ⟨gt,rfl,aN,hS1⟩)
 have HSS:=zq (⟨hS1,aN⟩:CnS w gt w1);clear aN hS1 HTX
 go_loopw [2] (λiv wr=>∃q:Nat,q<=40/\iv=↑q/\Hid (CnS w gt wr)) (λiv _=>40-(intOf iv).toNat)
 case atStart=>exact⟨0,awJ _,rfl,HSS⟩
 case round=>
  obtain⟨q,hq,rfl,HS⟩:=hrel;by_cases hlt:q<40
  ·obtain⟨s,hs⟩:∃s,kX[q]?=some s:=⟨_,awX (by rw[aiK];omega)⟩
   obtain⟨FW,hW,hbk,hout⟩:=alU (awG hs);have cc:=HS.out.cell hs;have Ht:Hid (∀w1,Ev wr w1->w1.cell? ⟨gt,q,none⟩=some ↑s):=zq λw1 hE=>(HS.out.ev hE).cell hs;have hLO:=λw1=>Xi s w1 ae;have hO:=λ(m:PM) (v:au) w1 (hE:Ev wr w1) (h:Qx 0 [] w1 m) (hm:m.p=(dH s).1) (hv:Yp v w1)=>Rt s m v w1 (QM.out.ev (HS.out.all.trans hE)) h hm hv;have kJ:=λ(m:PM) (g:Nat) (A':Option Addr) (c':Nat) w1 (h:Qx 0 [] w1 m) (hm:m.p=(dH s).1) (hv:pV w1 A' 2 c' (zI g))=>by have hf:=Az _ hW.wr.good (by have:=hW.wr.size;omega);have:=afT m 0 (zI g) A' 2 c' w1 h (by rw[hm];exact hW.wr.good) (by rw[hm];exact hf) (by rw[hm];have:=hW.wr.size;omega) (by rw[hm];have:=hW.ae8;omega) (by rw[hm];exact hbk) (by rw[hm];have:=hW.shown;unfold ug at this;rw[if_pos ⟨hW.ae8,hW.deep⟩]at this;exact this) hv (Yr g) (adF g);rw[acS,hm,<-hout]at this;exact this
   have HIN:=zq (λ(g:Nat) w1 (h:pV w1 (some ⟨g+2,0,none⟩) 2 2 (zI g))=>air (zI g) _ 2 2 w1 h ai);unfold Pn at hLO;unfold je at hO kJ;generalize Xj s=R at*;obtain⟨Rc,Rw,Rn⟩:=R;generalize dH s=RP at*;simp only at hO kJ;have HLO:=zq hLO;have HO:=zq hO;have yl:=zq kJ;have hcm:=HS.out.txt;have i3:(0:Int)<=(q:Int):=ae;have i4:(q:Int)<40:=ae;clear hs FW hW hbk hout hLO hO kJ hcm
   go_wp2_with (first
    | (have hh:=HC1;(with_reducible refine(HLO.out _).mono ?_);rintro r w5 ⟨m2,rfl,hm,hq2,hE⟩;have HM2:=zq hm;have HQ2:=zq hq2;have E5:=zq (E4.out.trans hE);have F5:=zq hE;clear hm hq2 hE)
    | ((with_reducible refine(HLO.out _).mono ?_);rintro r w2 ⟨m1,rfl,hm,hq2,hE⟩;have HM1:=zq hm;have HQ1:=zq hq2;have E2:=zq hE;clear hm hq2 hE)
    | (have hh:=HC1;(with_reducible refine(Vg.out _).mono ?_);rintro r w6 ⟨v,rfl,hE,hv⟩;obtain⟨g2,rfl,hD⟩:=hv;have HD2:=zq hD;have E6:=zq (E5.out.trans hE);have aiS:=zq (HQ2.out.ev hE);have F6:=zq (F5.out.trans hE);clear hD hE)
    | ((with_reducible refine(Vg.out _).mono ?_);rintro r w3 ⟨v1,rfl,hE,hv⟩;have HV1:=zq hv;have aiR:=zq (HQ1.out.ev hE);have E3:=zq (E2.out.trans hE);clear hv hE)
    | ((with_reducible refine(HO.out m1 v1 _ E3.out aiR.out HM1.out HV1.out).mono ?_);rintro r w4 ⟨x1,rfl,hOw,hE⟩;have E4:=zq (E3.out.trans hE);obtain⟨xA1,xc1,rfl,lq,mW⟩:=hOw.form iF;have HC1:=zq lq;clear mW lq hOw hE cc;have cc:=Ht.out _ E4.out)
    | ((with_reducible refine(HIN.out g2 _ HD2.out).mono ?_);rintro r w7 ⟨dA,dc_,rfl,hD,hE⟩;have HD3:=zq hD;have E7:=zq (E6.out.trans hE);have amd:=zq (aiS.out.ev hE);have F7:=zq (F6.out.trans hE);clear hD hE)
    | ((with_reducible refine(yl.out m2 g2 dA dc_ _ amd.out HM2.out HD3.out).mono ?_);rintro r w8 ⟨x2,rfl,hOw,hE⟩;have E8:=zq (E7.out.trans hE);obtain⟨xA2,xc2,rfl,lq,mW⟩:=hOw.form iF;have HK:Hid (Calls ax 12 #[.slice xA1 Rc.length xc1,.slice xA2 Rc.length xc2] w8 λe w'=>e=.returned (.bool true)/\Ev w8 w'):=zq (Pm w8 (HC1.out.ev (F7.out.trans hE)) lq);clear mW lq hOw hE)
    | ((with_reducible refine(HK.out).mono ?_);rintro r w9 ⟨rfl,hE⟩;have HS9:=zq (HS.out.ev (E8.out.trans hE));clear hE))
   go_roundw
   case rel=>exact⟨q+1,ae,by go_num,HS9⟩
   case measure=>simp[intOf];omega
  have i6:¬(q:Int)<40:=ae;have HOZ:Hid (∀v w1,Ev w w1->Yp v w1->Calls ax 7 #[.agg ↑Zz.b,v] w1 λe w'=>∃x,e=.returned (.tuple #[x,.int .i64 12,.string ⟨#[]⟩])/\Ev w1 w'):=zq λv w1 hE hv=>(ML jR 0 v w1 (QM.out.ev hE) (Qx.zero _ _ _) iE hv).mono (by rintro e w' ⟨x,rfl,_,bM⟩;exact⟨x,rfl,bM⟩);have HOB:Hid (∀(w1:ak),Calls ax 7 #[.agg ↑Zz.b,.slice ↑w1 1 1] (w1.alloc (.cells #[.string ⟨#[88]⟩,↑()] 42)) λe w'=>e=.returned (.tuple #[↑(),.int .i64 1,.string ⟨#[]⟩])/\Ev (w1.alloc (.cells #[.string ⟨#[88]⟩,↑()] 42)) w'):=zq λw1=>out_bad _ _ (YB w1 [88]);have HD1:Hid (∀(w1:ak),Calls ax 13 #[.slice ↑w1 1 1] (w1.alloc (.cells #[.string ⟨#[116]⟩,↑()] 42)) λe w'=>e=.returned (.int .i64 23)/\Ev (w1.alloc (.cells #[.string ⟨#[116]⟩,↑()] 42)) w'):=zq λw1=>adC _ _ (YB w1 [116]);have HDO:=zq aaD;have HD3:=zq (λbd jJ A0 A1 A2 w1 h=>XA bd jJ A0 A1 A2 w1 h);have HDN:=zq aaC;have mg:=zq (λw1 (hE:Ev w w1)=>afP w1 (QM.out.ev hE));have jy:=zq HS.out.all;clear HS HSS QM
  go_wp2_with (first
   | (have hh:=F1;(with_reducible refine(HDO.out _).mono ?_);rintro r w7 ⟨g2,hg2,rfl,hE,hD,hO⟩;have HG:=zq (awU (HO1.out.lt rfl).2 (Nat.le_of_eq hg2.symm));have HD2:=zq (hD.ev (Ev.alloc _ (.cells #[.string ⟨#[116]⟩,.slice ↑g2 3 3] 42)));have HE7:=zq (HE6.out.trans (hE.trans (Ev.alloc _ (.cells #[.string ⟨#[116]⟩,.slice ↑g2 3 3] 42))));have ame:=zq (aqb.out.ev (hE.trans (Ev.alloc _ (.cells #[.string ⟨#[116]⟩,.slice ↑g2 3 3] 42))));have aqc:=zq ((HO1.out.ev (hE.trans (Ev.alloc _ (.cells #[.string ⟨#[116]⟩,.slice ↑g2 3 3] 42)))).low (awJ _));obtain⟨c0,c1⟩:=adG hD;have avs:=(hO.lt rfl).2;clear hg2 hE hD hO)
   | (have hh:=zN;(with_reducible refine(HDO.out _).mono ?_);rintro r w6 ⟨g1,hg1,rfl,hE,hD,hO⟩;have HO1:=zq hO;have HLO:=zq (aw0 zN.out.size (hO.lt rfl).1);have aqb:=zq hD;have HE6:=zq (zN.out.trans hE);have F1:=zq hE;clear hg1 hE hD hO)
   | ((with_reducible refine(Vg.out _).mono ?_);rintro r w2 ⟨v1,rfl,hE,hv⟩;have HV1:=zq hv;have lH:=zq (jy.out.trans hE);clear hv hE)
   | ((with_reducible refine(HOZ.out v1 _ lH.out HV1.out).mono ?_);rintro r w3 ⟨x3,rfl,hE⟩;have VY:=zq ((lH.out.trans hE).trans (Ev.alloc _ (.cells #[.string ⟨#[88]⟩,↑()] 42)));clear hE)
   | ((with_reducible refine(HOB.out _).mono ?_);rintro r w4 ⟨rfl,hE⟩;have HE4:=zq ((VY.out.trans hE).trans (Ev.alloc _ (.cells #[.string ⟨#[116]⟩,↑()] 42)));clear hE)
   | ((with_reducible refine(HD1.out _).mono ?_);rintro r w5 ⟨rfl,hE⟩;have zN:=zq (HE4.out.trans hE);clear hE)
   | ((show wpList _ _ _ (⟨some 92,_,_,_,_,_⟩::_) _ _);refine Fj (o:=⟨some 92,_,_,_,_,_⟩) (by rfl) 34 (.tmp 87) (.tmp 91) rfl Qm underlying34 Tryz.adE rfl rfl aqc.out (some ⟨_,0,none⟩) 1 1 [⟨[116],some ⟨g2,0,none⟩,3,gZ⟩] rfl (Sl.one (et:=42) Qm _ _ _ rfl) (by simp[zI]) (by simp[zI]) (awJ _) ?_;intro v2 w8 dY;obtain⟨bd,cap,rfl,hD⟩:=adH ame.out (HD2.out.cols ⟨[116],some ⟨g2,0,none⟩,3,gZ⟩ (by simp[zI])) HG.out dY;have HD8:=zq hD;have HE8:=zq (But.yx HE7.out dY.2.1 (λg hg=>by have:=aG.1 hg;injection this with this;subst this;exact HLO.out));clear dY hD c0 c1)
   | ((with_reducible refine(HD3.out bd cap _ _ _ _ HD8.out).mono ?_);rintro r w9 ⟨rfl,hE⟩;have HE9:=zq (HE8.out.trans hE);clear hE)
   | ((with_reducible refine(HDN.out _).mono ?_);rintro r w10 ⟨rfl,hE⟩;have amf:=zq (HE9.out.trans hE);clear hE)
   | ((with_reducible refine(mg.out _ amf.out).mono ?_);rintro r w11 ⟨rfl,hE⟩;have aqd:=zq (amf.out.trans hE);clear hE))
  go_ret;exact⟨rfl,aqd.out⟩
end Go.Proofs.YtpbfokkocaemlaaGreatDoor
