import Derived.Test.YtbgmhhfjkkfhpaaGreatDoorZ37G
import Derived.Test.YtbgmhhfjkkfhpaaGreatDoorZ35G
set_option linter.unusedVariables false
set_option maxRecDepth 100000
set_option maxHeartbeats 64000000
namespace Go.Proofs
open Go.Shelf
def Tryz.bitsLen_ren : Go.Shelf.Ren := ⟨fun | 125 => 88 | 128 => 157 | 129 => 158 | n => n, fun | 46 => 148 | 3 => 3 | 51 => 226 | 53 => 228 | 4 => 4 | 5 => 5 | 9 => 9 | n => n, fun | n => n⟩
theorem Tryz.bitsLen : Go.Proofs.Lays.n125 Tryz.prog Tryz.bitsLen_ren := {
  mixed := by kernel_rfl
  f125 := Tryz.func88.trans (congrArg some (by kernel_rfl))
  f128 := Tryz.func157.trans (congrArg some (by kernel_rfl))
  f129 := Tryz.func158.trans (congrArg some (by kernel_rfl))
  t3 := Tryz.underlying3
  a3 := Tryz.isAgg3
  z3 := Tryz.sizeOf3
  v3 := Tryz.zeroValue3
  t4 := Tryz.underlying4
  a4 := Tryz.isAgg4
  z4 := Tryz.sizeOf4
  v4 := Tryz.zeroValue4
  t5 := Tryz.underlying5
  a5 := Tryz.isAgg5
  z5 := Tryz.sizeOf5
  v5 := Tryz.zeroValue5
  t9 := Tryz.underlying9
  a9 := Tryz.isAgg9
  z9 := Tryz.sizeOf9
  v9 := Tryz.zeroValue9
  t46 := Tryz.underlying148
  a46 := Tryz.isAgg148
  z46 := Tryz.sizeOf148
  v46 := Tryz.zeroValue148
  t51 := Tryz.underlying226
  a51 := Tryz.isAgg226
  z51 := Tryz.sizeOf226
  v51 := Tryz.zeroValue226
  t53 := Tryz.underlying228
  a53 := Tryz.isAgg228
  z53 := Tryz.sizeOf228
  v53 := Tryz.zeroValue228 }
end Go.Proofs
namespace Go.Proofs.YtbgmhhfjkkfhpaaGreatDoor
open Go.RowKit
open Go.Lib renaming hid → zq
open Go renaming World → ak
open Go renaming Value → au
open Go.Proofs.Tryz renaming prog → ax
variable {U:Prop}
open Go.Proofs.Tryz

theorem VV (n : Nat) (w : World) (h : n ≤ 1000) : Calls Tryz.prog 88 #[.int .u64 (n : Int)] w fun e w' => e = .returned (.int .i64 (Lib.bitLen n : Nat)) ∧ w' = w := by
  have := Go.Proofs.Any.bits_Len Tryz.bitsLen (n : Int) w (by omega) (by omega)
  exact this
theorem ait (go gb : Nat) (r lim : Int) (w : World) (hO : Bx 3 go #[.int .i64 0, .int .i64 1] w) (hr0 : 0 ≤ r) (hC : ∀ w1, Ev w w1 → Calls Tryz.prog 114 #[.int .i64 1, .int .i64 0, .pointer (some ⟨gb, 0, none⟩)] w1 fun e w' => e = .returned (.int .i64 r) ∧ Ev w1 w') :
    Calls Tryz.prog 169 #[.slice (some ⟨go, 0, none⟩) 2 2, .int .i64 0, .int .i64 2, .int .i64 lim, .func (.func 114) #[] #[.pointer (some ⟨gb, 0, none⟩)]] w fun e w' => e = .returned (.tuple #[]) ∧ Ev w w' := by
  have HI := zq (ais go gb r w hO hr0 hC)
  clear hO hC
  go_enter Tryz.func169, Tryz.ntmps169
  go_wp2
  refine wp_loop_rounds 1 ?_
  rw [rounds_succ]
  go_wp2_with ((with_reducible refine (HI.out).mono ?_); rintro e w1 ⟨rfl, aJ⟩)
  (try simp only [Exit.inBlock, Exit.then])
  refine bodyPost_ret (results_none rfl _ _ _) rfl ?_
  exact ⟨rfl, aJ⟩
theorem afn (go gb : Nat) (r : Int) (w : World) (hO : Bx 3 go #[.int .i64 0, .int .i64 1] w) (hr0 : 0 ≤ r) (hC : ∀ w1, Ev w w1 → Calls Tryz.prog 114 #[.int .i64 1, .int .i64 0, .pointer (some ⟨gb, 0, none⟩)] w1 fun e w' => e = .returned (.int .i64 r) ∧ Ev w1 w') :
    Calls Tryz.prog 113 #[.slice (some ⟨go, 0, none⟩) 2 2, .func (.func 114) #[] #[.pointer (some ⟨gb, 0, none⟩)]] w fun e w' => e = .returned (.tuple #[]) ∧ Ev w w' := by
  have HP := zq (fun lim => ait go gb r lim w hO hr0 hC)
  have HL : Hid (∀ w1, Calls Tryz.prog 88 #[.int .u64 2] w1 fun e w' => ∃ k : Int, e = .returned (.int .i64 k) ∧ w' = w1) := zq fun w1 => (VV 2 w1 (by omega)).mono fun e w' h => ⟨_, h.1, h.2⟩
  clear hO hC
  go_enter Tryz.func113, Tryz.ntmps113
  go_wp2_with (first
    | ((with_reducible refine (HL.out _).mono ?_); rintro e w1 ⟨k, rfl, rfl⟩)
    | ((with_reducible refine (HP.out _).mono ?_); rintro e w1 ⟨rfl, aJ⟩))
  go_end0
  exact ⟨rfl, aJ⟩
theorem aj'(w:ak)(v:au):∃w0,w.alloc (.cells #[v] 62)=w0/\Ev w w0/\Bx 62 w.heap.size #[v] w0/\w0.heap.size=w.heap.size+1:=⟨_,rfl,Ev.alloc _ _,Bx.new _ _ _,aj⟩
theorem Tryz.VW:(Tryz.prog.info? 3).map (λi=>(i.zero,i.size,i.bytes))=some (some (.int .i64 0),1,8):=ah
theorem alX(u:ak):(Instr.makeSlice 175 (.int .i64 2) (.int .i64 2)).run ax u=.ok (.slice ↑u 2 2) (u.alloc (.cells #[.int .i64 0,.int .i64 0] 3)):=by obtain⟨i0,hi,hz0,hz1,hz2⟩:=aE' Tryz.VW;have h:=run_make (P:=ax) u 175 3 i0 _ underlying175 hi hz0 .i64 .i64 2 2 ae (aEI _) (by rw[hz2];omega) ae;rw[hz1,show madeCells (Value.int .i64 0).cells (Int.toNat 2*1)=#[.int .i64 0,.int .i64 0] by kernel_rfl]at h;exact h
theorem afo(bd iE:Nat)(d0 d1:DM)(w:ak)(h:yH w ↑bd 2 iE [d0,d1])(hn:(d1.name==d0.name)=false)(hc:0<=afm d1 d0 1 0):
  Calls ax 63 #[.slice ↑bd 2 iE] w λe w'=>e=.returned (.int .i64 2)/\Ev w w':=by
 have hcp:=h.sl.le;have hcm:=h.sl.max;have dH:Tryz.prog.follows .mixedOrders=true:=ah;have hmf:∀(fn:Fn) (first cap:Array au) (w:ak),(Instr.makeFunc fn first cap).run ax w=.ok (.func fn first cap) w:=λ_ _ _ _=>rfl;obtain⟨w0,hw0,aV,hBx,hs0⟩:=aj' w (.slice ↑bd 2 iE);have HB:=zq hBx;have hl0:w0.cell? ⟨↑w,0,none⟩=some (.slice ↑bd 2 iE):=hBx.cell 0;have HC:=zq (λw1 (hE:Ev w0 w1)=>air w.heap.size bd 0 2 iE [d0,d1] 1 0 d1 d0 w1 (hBx.ev hE) (h.ev (aV.trans hE)) rfl rfl);have cO:=zq aV;have hB1:=Bx.new 3 #[.int .i64 0,.int .i64 0] w0;obtain⟨⟨o0,o1⟩,z0,z1⟩:=hB1.two;have hmk:=alX w0;have HN:Hid (∀w1,Ev w0 w1->bd<w1.heap.size/\w1.cell? ⟨bd,0,none⟩=some ↑d0.name/\w1.cell? ⟨bd,2,none⟩=some ↑d1.name):=zq λw1 hE=>by
  have h1:=h.ev (aV.trans hE);obtain⟨b,o,e,hbl,c0,_⟩:=h1.cell (i:=0) (d:=d0) rfl;obtain⟨b',o',e',_,c1,_⟩:=h1.cell (i:=1) (d:=d1) rfl;injection e with e
  injection e with e1 e2 _
  injection e' with e'
  injection e' with e3 e4 _
  subst e1 e2 e3 e4;exact⟨hbl,c0,c1⟩
 clear hBx h aV hB1;go_enter func63,ntmps63;go_wp2;refine aFh 3 ?_;rw[aFi];go_wp2;rw[aFi];go_wp2;rw[aFi];go_upto_region 7 with fail
 obtain⟨w5,uM⟩:∃w5,w5=w0.alloc (.cells #[.int .i64 0,.int .i64 1] 3):=⟨_,rfl⟩
 rw[<-uM];have yK:=Bx.new 3 #[.int .i64 0,.int .i64 1] w0;rw[<-uM,hs0]at yK;have qP:Ev w0 w5:=by rw[uM];exact Ev.alloc _ _
 have I_:=zq qP;have HS:=zq (afn (w.heap.size+1) w.heap.size _ w5 yK hc λw1 hE=>HC.out w1 (qP.trans hE));have IB:=zq yK;clear uM yK qP o0 o1 z0 z1 hmk hw0;have hg5:=IB.out.lt;have l5:=(I_.out.cell (p:=⟨↑w,0,none⟩) (show w.heap.size<w0.heap.size by omega)).trans hl0;clear hl0
 go_wp2_with ((with_reducible refine(HS.out).mono ?_);rintro e w6 ⟨rfl,uK⟩;have HE6:=zq (I_.out.trans uK);have hl6:w6.cell? ⟨↑w,0,none⟩=some (.slice ↑bd 2 iE):=(HB.out.ev (I_.out.trans uK)).cell 0;obtain⟨⟨o0,o1⟩,_⟩:=(IB.out.ev uK).two;obtain⟨hbl,n0,n1⟩:=HN.out w6 (I_.out.trans uK);clear uK l5)
 refine aFh 2 ?_;rw[aFi];go_upto_region 12 with fail
 go_quiet (fail)
 go_wp2;rw[aFi];go_wp2;go_ret;exact⟨rfl,(cO.out.trans HE6.out).trans (Ev.drewN w6 nq)⟩
theorem alY(go gb:Nat)(w:ak):Calls ax 214 #[.slice ↑go 1 1,.int .i64 0,.int .i64 1,.func (.func 114) #[] #[.pointer ↑gb]] w λe w'=>e=.returned (.tuple #[])/\w'=w:=by go_enter func214,ntmps214;go_wp2;refine aFh 1 ?_;rw[aFi];go_wp2;go_end0;exact⟨rfl,rfl⟩
theorem alZ(go gb:Nat)(lim:Int)(w:ak):Calls ax 169 #[.slice ↑go 1 1,.int .i64 0,.int .i64 1,↑lim,.func (.func 114) #[] #[.pointer ↑gb]] w λe w'=>e=.returned (.tuple #[])/\w'=w:=by have HI:=zq (alY go gb w);go_enter func169,ntmps169;go_wp2;refine aFh 1 ?_;rw[aFi];go_wp2_with ((with_reducible refine(HI.out).mono ?_);rintro e w1 ⟨rfl,rfl⟩);(try simp only[Exit.inBlock,Exit.then]);refine aFe (results_none rfl _ _ _) rfl ?_;exact⟨rfl,rfl⟩
theorem aiu(go gb:Nat)(w:ak):Calls ax 113 #[.slice ↑go 1 1,.func (.func 114) #[] #[.pointer ↑gb]] w λe w'=>e=.returned (.tuple #[])/\w'=w:=by
 have HP:=zq (λlim=>alZ go gb lim w);have HL:Hid (∀w1,Calls ax 88 #[.int .u64 1] w1 λe w'=>∃k:Int,e=.returned ↑k/\w'=w1):=zq λw1=>(VV 1 w1 ae).mono λe w' h=>⟨_,h.1,h.2⟩
 go_enter func113,ntmps113
 go_wp2_with (first
  | ((with_reducible refine(HL.out _).mono ?_);rintro e w1 ⟨k,rfl,rfl⟩)
  | ((with_reducible refine(HP.out _).mono ?_);rintro e w1 ⟨rfl,rfl⟩))
 go_end0;exact⟨rfl,rfl⟩
theorem aiv(u:ak):(Instr.makeSlice 175 (.int .i64 1) (.int .i64 1)).run ax u=.ok (.slice ↑u 1 1) (u.alloc (.cells #[.int .i64 0] 3)):=by obtain⟨i0,hi,hz0,hz1,hz2⟩:=aE' Tryz.VW;have h:=run_make (P:=ax) u 175 3 i0 _ underlying175 hi hz0 .i64 .i64 1 1 ae (aEI _) (by rw[hz2];omega) ae;rw[hz1,show madeCells (Value.int .i64 0).cells (Int.toNat 1*1)=#[.int .i64 0] by kernel_rfl]at h;exact h
theorem al0(bd iE:Nat)(hcp:1<=iE)(hcm:iE<=9223372036854775807)(w:ak):Calls ax 63 #[.slice ↑bd 1 iE] w λe w'=>e=.returned (.int .i64 1)/\Ev w w':=by
 have hmf:∀(fn:Fn) (first cap:Array au) (w:ak),(Instr.makeFunc fn first cap).run ax w=.ok (.func fn first cap) w:=λ_ _ _ _=>rfl;obtain⟨w0,hw0,aV,hBx,hs0⟩:=aj' w (.slice ↑bd 1 iE);have hl0:w0.cell? ⟨↑w,0,none⟩=some (.slice ↑bd 1 iE):=hBx.cell 0;have cO:=zq aV;have hB1:=Bx.new 3 #[.int .i64 0] w0;have o0:=hB1.cell 0;have z0:=hB1.frozen 0;have hmk:=aiv w0;clear hBx aV hB1;go_enter func63,ntmps63;go_wp2;refine aFh 2 ?_;rw[aFi];go_wp2;rw[aFi];go_upto_region 7 with fail
 obtain⟨w5,uM⟩:∃w5,w5=w0.alloc (.cells #[.int .i64 0] 3):=⟨_,rfl⟩
 rw[<-uM];have qP:Ev w0 w5:=by rw[uM];exact Ev.alloc _ _
 have I_:=zq qP;have HS:=zq (aiu (w.heap.size+1) w.heap.size w5);have hg5:w.heap.size<w5.heap.size:=aDf ae qP.size;clear uM qP hmk hw0 o0 z0;have l5:=(I_.out.cell (p:=⟨↑w,0,none⟩) (show w.heap.size<w0.heap.size by omega)).trans hl0;clear hl0
 go_wp2_with ((with_reducible refine(HS.out).mono ?_);rintro e w6 ⟨rfl,rfl⟩)
 refine aFh 1 ?_;rw[aFi];go_wp2;go_ret;exact⟨rfl,cO.out.trans I_.out⟩
theorem al1(bd iE:Nat)(d0:DM)(w:ak)(hD:yH w ↑bd 1 iE [d0])(KO:gU ⟨d0.name.toArray⟩=true)(hc0:qO d0.cols=0):Calls ax 37 #[.slice ↑bd 1 iE] w λe w'=>e=.returned (.int .i64 0)/\Ev w w':=by
 have hcp:=hD.sl.le;have hcm:=hD.sl.max;have HR:=zq (al0 bd iE hcp hcm w);have HN:Hid (∀w1,Ev w w1->bd<w1.heap.size/\w1.cell? ⟨bd,0,none⟩=some ↑d0.name/\w1.cell? ⟨bd,1,none⟩=some (.slice d0.A d0.cols.length d0.cap)):=zq λw1 hE=>by
  have h1:=hD.ev hE;obtain⟨b0,o0,e0,hbl,c0,c1⟩:=h1.cell (i:=0) (d:=d0) rfl;injection e0 with e0
  injection e0 with a0 u0 _
  subst a0 u0;exact⟨hbl,c0,c1⟩
 have HN0:=zq (λw1=>vP ⟨d0.name.toArray⟩ w1);rw[KO]at HN0;have HC0:Hid (∀w1,Ev w w1->Calls ax 65 #[.slice d0.A d0.cols.length d0.cap] w1 λe w'=>e=.returned (.int .i64 (qO d0.cols))/\Ev w1 w'):=zq (λw1 (hE:Ev w w1)=>y8 w1 ((hD.cols d0 aj).ev hE));rw[hc0]at HC0;clear hD KO hc0;go_enter func37,ntmps37
 go_wp2_with ((with_reducible refine(HR.out).mono ?_);rintro e w1 ⟨rfl,aJ⟩;have cO:=zq aJ;obtain⟨hbl,c0,c1⟩:=HN.out w1 aJ;clear aJ)
 refine aFh 2 ?_;rw[aFi];have hX:=Bx.new 97 #[↑d0.name,.slice d0.A d0.cols.length d0.cap] w1;obtain⟨⟨b0,b1⟩,_⟩:=hX.two
 go_wp2_with (first
  | ((with_reducible refine(HN0.out _).mono ?_);rintro e wn0 ⟨rfl,hE⟩;have E2:=zq (cO.out.trans ((Ev.alloc w1 _).trans hE));clear b0 b1;obtain⟨⟨b0,b1⟩,_⟩:=(hX.ev hE).two;clear hE)
  | ((with_reducible refine(HC0.out _ E2.out).mono ?_);rintro e wc0 ⟨rfl,hE⟩;have jE:=zq (E2.out.trans hE);clear hbl c0 c1;obtain⟨hbl,c0,c1⟩:=HN.out wc0 jE.out;clear hE E2))
 clear hX b0 b1;rw[aFi];go_wp2;go_ret;exact⟨rfl,jE.out⟩
theorem al2(bd iE:Nat)(d0 d1:DM)(w:ak)(hD:yH w ↑bd 2 iE [d0,d1])(hn:(d1.name==d0.name)=false)(hc:0<=afm d1 d0 1 0)(KO:gU ⟨d0.name.toArray⟩=true)(uC:gU ⟨d1.name.toArray⟩=true)(hc0:qO d0.cols=0)(hc1:qO d1.cols=0):
  Calls ax 37 #[.slice ↑bd 2 iE] w λe w'=>e=.returned (.int .i64 0)/\Ev w w':=by
 have hcp:=hD.sl.le;have hcm:=hD.sl.max;have HR:=zq (afo bd iE d0 d1 w hD hn hc);have HN:Hid (∀w1,Ev w w1->bd<w1.heap.size/\w1.cell? ⟨bd,0,none⟩=some ↑d0.name/\w1.cell? ⟨bd,1,none⟩=some (.slice d0.A d0.cols.length d0.cap)/\w1.cell? ⟨bd,2,none⟩=some ↑d1.name/\w1.cell? ⟨bd,3,none⟩=some (.slice d1.A d1.cols.length d1.cap)):=zq λw1 hE=>by
  have h1:=hD.ev hE;obtain⟨b,o,e,hbl,c0,c1⟩:=h1.cell (i:=0) (d:=d0) rfl;obtain⟨b',o',e',_,c2,c3⟩:=h1.cell (i:=1) (d:=d1) rfl;injection e with e
  injection e with e1 e2 _
  injection e' with e'
  injection e' with e3 e4 _
  subst e1 e2 e3 e4;exact⟨hbl,c0,c1,c2,c3⟩
 have LV:=zq (λw1=>vP ⟨d0.name.toArray⟩ w1);have HNU:=zq (λw1=>vP ⟨d1.name.toArray⟩ w1);have HCT:Hid (∀w1,Ev w w1->Calls ax 65 #[.slice d0.A d0.cols.length d0.cap] w1 λe w'=>e=.returned (.int .i64 (qO d0.cols))/\Ev w1 w'):=zq (λw1 (hE:Ev w w1)=>y8 w1 ((hD.cols d0 aj).ev hE));have HCU:Hid (∀w1,Ev w w1->Calls ax 65 #[.slice d1.A d1.cols.length d1.cap] w1 λe w'=>e=.returned (.int .i64 (qO d1.cols))/\Ev w1 w'):=zq (λw1 (hE:Ev w w1)=>y8 w1 ((hD.cols d1 aj).ev hE));rw[KO]at LV;rw[uC]at HNU;rw[hc0]at HCT;rw[hc1]at HCU;clear hD hn hc KO uC hc0 hc1;go_enter func37,ntmps37
 go_wp2_with ((with_reducible refine(HR.out).mono ?_);rintro e w1 ⟨rfl,aJ⟩;have jE:=zq aJ;obtain⟨hbl,c0,c1,c2,c3⟩:=HN.out w1 aJ;clear aJ)
 refine aFh 3 ?_;rw[aFi];have hX:=Bx.new 97 #[↑d0.name,.slice d0.A d0.cols.length d0.cap] w1;obtain⟨⟨b0,b1⟩,_⟩:=hX.two
 go_wp2_with (first
  | ((with_reducible refine(LV.out _).mono ?_);rintro e w2 ⟨rfl,hE⟩;have E2:=zq (jE.out.trans ((Ev.alloc w1 _).trans hE));clear b0 b1;obtain⟨⟨b0,b1⟩,_⟩:=(hX.ev hE).two;clear hE)
  | ((with_reducible refine(HCT.out _ E2.out).mono ?_);rintro e w3 ⟨rfl,hE⟩;have U8:=zq (E2.out.trans hE);clear hbl c0 c1 c2 c3;obtain⟨hbl,c0,c1,c2,c3⟩:=HN.out w3 U8.out;clear hE E2))
 clear hX b0 b1;rw[aFi];have hX:=Bx.new 97 #[↑d1.name,.slice d1.A d1.cols.length d1.cap] w3;obtain⟨⟨b0,b1⟩,_⟩:=hX.two
 go_wp2_with (first
  | ((with_reducible refine(HNU.out _).mono ?_);rintro e w4 ⟨rfl,hE⟩;have E2:=zq (U8.out.trans ((Ev.alloc w3 _).trans hE));clear b0 b1;obtain⟨⟨b0,b1⟩,_⟩:=(hX.ev hE).two;clear hE)
  | ((with_reducible refine(HCU.out _ E2.out).mono ?_);rintro e w5 ⟨rfl,hE⟩;have I_:=zq (E2.out.trans hE);clear hbl c0 c1 c2 c3;obtain⟨hbl,c0,c1,c2,c3⟩:=HN.out w5 I_.out;clear hE E2))
 clear hX b0 b1;rw[aFi];go_wp2;go_ret;exact⟨rfl,I_.out⟩
def tuF:List Df:=[([116],jO),([117],cZ)]
theorem apj:qO jO=0:=by decide+kernel
theorem apk:qO cZ=0:=by decide+kernel
theorem akc:gU ⟨#[116]⟩=true:=by decide+kernel
theorem akd:gU ⟨#[117]⟩=true:=by decide+kernel
def SQ(R:List C×Int×ByteArray)(w:ak)(e:Ending)(w':ak):Prop:=∃v,e=.returned (.tuple #[v,.int .i64 R.2.1,.string R.2.2])/\Ow 82 2 jY w.heap.size w' v R.1/\Ev w w'
theorem aH7(h:U:=by refine aFe (aZ rfl _ _ _ _ _ rfl f1 underlying93 rfl Tryz.jR) rfl ?_;rw[Ul.out];exact f2):U:=h
theorem ami(N:Nat):∀(m:PM) (b0:Nat) (D:List DM) (DA:Option Addr) (dn iE:Nat) (w:ak),m.dep<=N->Qx b0 [] w m->m.p.good->m.p.fit->m.p.inK qL=true->yH w DA dn iE D->(∀d∈D,0<d.cols.length/\d.cols.length<=6)->
  Calls ax 41 #[.agg ↑m,.slice DA dn iE] w (nI w.heap.size ↑() (ckOf (D.map DM.df) m.p) w):=by
 induction N with
 | zero=>
  intro m b0 D DA dn iE w hd;rw[PM.vC]at hd;omega
 | succ N ih=>
  intro m b0 D DA dn iE w hd hQ hg hf hK hDs hDl;obtain⟨TS,hKq⟩:=aal hK;have HKK:=zq TS;have dH:Tryz.prog.follows .mixedOrders=true:=ah;obtain⟨hgh,hgk⟩:=alT hg;obtain⟨hfh,hfk⟩:=ae7 hf;have Dk:Hid (∀x∈m.kids,∀w1,Ev w w1->Calls ax 41 #[.agg ↑x,.slice DA dn iE] w1 (nI w1.heap.size ↑() (ckOf (D.map DM.df) x.p) w1)):=zq λx hx w1 hE=>ih x b0 D DA dn iE w1 (by have:=PM.uH hx;omega) ((hQ.kid x hx).ev hE) (hgk x hx) (hfk x hx) (hKq x hx) (hDs.ev hE) hDl;have HD6:Hid (∀p,(ckOf (D.map DM.df) p).why=0->(ckOf (D.map DM.df) p).cols.length<=6):=zq λp=>VU (λd hd=>by obtain⟨x,hx,rfl⟩:=aDz.1 hd;exact(hDl x hx).2) p;have HTB:=zq (λw1 (hE:Ev w w1)=>afe D DA dn iE m.name w1 (hDs.ev hE) hDl);have HKB:Hid (∀k Z (x:PM),YQ (D.map DM.df) m.kids k Z->m.kids[k]?=some x->(ckOf (D.map DM.df) x.p).why≠0->ckOf (D.map DM.df) m.p=ckOf (D.map DM.df) x.p):=zq λk Z x h hx h0=>YQ.bad h hx h0;have HKF:=zq (λZ (h:YQ (D.map DM.df) m.kids m.kids.length Z)=>YQ.fin h);obtain⟨D2,hD2⟩:∃D2,D2=D.map DM.df:=⟨_,rfl⟩
  rw[<-hD2]at Dk HD6 HTB HKB HKF|-;obtain⟨CK,hCK⟩:∃CK,CK=ckOf D2 m.p:=⟨_,rfl⟩
  rw[<-hCK]at HKB HKF|-;have hkp:=hQ.ps;have hkn:=hkp.le;have hkm:=hkp.max;have hkr:∀ad,m.A=some ad->ad.block<w.heap.size:=λad e=>(hQ.at.2.2.2.2.2.2.1.WR ad e).2.1;have WY:Hid (∀w1,Ev w w1->Ps w1 m.A m.kids.length m.cap m.kids):=zq λw1 hE=>hkp.ev hE;have HQ:=zq hQ;have HGH:=zq hgh;have HFH:=zq hfh;have Ob:m.kids.length<=10000:=hfh.2.2.2.2.2.2.2;obtain⟨w0,hw0,aV,TQ,hBr,hs0⟩:=aph w ↑m;have cO:=zq aV;have HPB:=zq TQ;have uk:=zq hBr;have rE:=zq hs0;obtain⟨⟨p0,p1,p2,p3,p4,p5,p6,p7⟩,_⟩:=TQ.eight;have vU:Hid (∀k x,m.kids[k]?=some x->x∈m.kids):=zq λk x h=>aDb h;have hgw:=hBr.lt;clear hK TS hKq hQ hg hf hDs hDl hgh hgk hfh hfk hD2 hCK ih hd hkp aV TQ hBr hs0;generalize hmA:m.A=mA at*;generalize hmn:m.kids.length=nk at*;generalize hmc:m.cap=mc at*;generalize hmk:m.kind=kd at*;have HMA:=zq hmA;have HMC:=zq hmc;clear hmA hmc;have HMN:=zq hmn;clear hmn;go_enter func41,ntmps41;go_wp2
  go_loopw [5,12] (λzv iv wr=>∃(k:Nat) (Z:List (dK C)) (ZA:Option Addr) (zc:Nat),zv=.slice ZA k zc/\iv=↑k/\k<=nk/\Hid (Eu w0 ZA zc Z wr)/\Hid (YQ D2 m.kids k Z)) (λ_ iv _=>nk-(intOf iv).toNat)
  case atStart=>exact⟨0,[],none,0,rfl,rfl,aDl _,zq (Eu.start w0),zq ⟨rfl,(λr hr=>by simp at hr),aj⟩⟩
  case round=>
   obtain⟨k,Z,ZA,zc,rfl,rfl,hk,HS,HI⟩:=hrel;have hzl:=HI.out.len;subst hzl;by_cases hlt:Z.length<nk
   ·obtain⟨x,hx⟩:=(WY.out _ (cO.out.trans HS.out.ev)).at hlt;obtain⟨bk,ok,rfl,hbk,_⟩:=(WY.out _ (cO.out.trans HS.out.ev)).rd ae;obtain⟨x0,x1,x2,x3,x4,x5,x6,x7⟩:=Ps.cell (WY.out _ (cO.out.trans HS.out.ev)) hx;unfold dK.v PM.kv at*;have tq:=vU.out _ x hx;have HIX:=zq (Dk.out x tq);unfold nI at HIX;have HX:=zq hx;have hBQ:=Bx.new 35 ↑x wr;obtain⟨⟨q0,q1,q2,q3,q4,q5,q6,q7⟩,_⟩:=hBQ.eight;obtain⟨R,hR⟩:∃R,R=ckOf D2 x.p:=⟨_,rfl⟩
    rw[<-hR]at HIX;have HR:=zq hR;have i1:(0:Int)<=(Z.length:Int):=ae;have i2:(Z.length:Int)<(nk:Int):=ae;have hsw:=HS.out.ev.size;clear hx tq hBQ hR;by_cases hw:R.why=0
    ·have HNX:Hid (∀z:dK C,z.l=R.cols->YQ D2 m.kids (Z.length+1) (Z++[z])):=zq λz hz=>HI.out.next HX.out (by rw[<-HR.out];exact hw) (by rw[hz,HR.out])
     have ZF:(R.why==0)=true:=by simp[hw]
     rw[hw]at HIX
     go_wp2_with (first
      | ((with_reducible refine(HIX.out _ ((cO.out.trans HS.out.ev).trans aC)).mono ?_);rintro r_ w6 ⟨v,rfl,hO,Jo,hS6⟩;obtain⟨vA,vc,rfl,zB,zC⟩:=hO.form rD;clear zB zC;have uK:=Jo.ev (λk hk=>by cases hk);have E6:=zq ((Ev.alloc wr _).trans uK);have HO:=zq hO;have hzl:Z.length<=10000:=ae;clear hO Jo hS6 uK q0 q1 q2 q3 q4 q5 q6 q7)
      | ((show wpList _ _ _ (⟨some 27,_,_,_,_,_⟩::_) _ _);refine aQ (o:=⟨some 27,_,_,_,_,_⟩) rfl 131 (.tmp 23) (.tmp 26) rfl aio underlying131 Tryz.afk rfl rfl (HS.out.up (E6.out.trans (aC.trans aC))).own (some ⟨w6.heap.size+1,0,none⟩) 1 1 [⟨vA,vc,R.cols⟩] rfl (by have:=Sl.one (et:=38) aio (w6.alloc (.cells #[.slice vA R.cols.length vc,.int .i64 0,.string R.name] 93)) ⟨vA,vc,R.cols⟩ #[.slice vA R.cols.length vc] rfl;simpa using this) (by simp;omega) (by simp;omega) (by have:=E6.out.size;simp;omega) ?_;intro v2 w7 iq;obtain⟨A2,cap2,rfl,hN7⟩:=HS.out.next aj (E6.out.trans (aC.trans aC)) (HO.out.ev (aC.trans aC)) iq;have HN7:=zq hN7;clear hN7 iq))
     go_roundw
     case rel=>exact⟨Z.length+1,Z++[⟨vA,vc,R.cols⟩],A2,cap2,rfl,by go_num,ae,HN7,zq (HNX.out _ rfl)⟩
     case measure=>simp[intOf];omega
    have ZF:(R.why==0)=false:=aC7.2 hw;have hwn:(R.why !=0)=true:=by simp[hw]
    have HCK:Hid (CK=R):=zq (by rw[HR.out];exact HKB.out _ _ x HI.out HX.out (by rw[<-HR.out];exact hw));rw[HCK.out]
    go_wp2_with (first
     | ((with_reducible refine(HIX.out _ ((cO.out.trans HS.out.ev).trans aC)).mono ?_);rintro r_ w6 ⟨v,rfl,hO,Jo,hS6⟩;obtain⟨vA,vc,rfl,zB,zC⟩:=hO.form rD;clear zB zC;have uK:=Jo.ev (λk hk=>by cases hk);have E6:=zq ((Ev.alloc wr _).trans uK);have HO:=zq hO;have HS6:=zq hS6;obtain⟨⟨g0,g1,g2⟩,z0,z1,z2⟩:=((uk.out.ev HS.out.ev).ev ((Ev.alloc wr _).trans uK)).three;have hg6:=((uk.out.ev HS.out.ev).ev ((Ev.alloc wr _).trans uK)).lt;clear hO Jo hS6 uK q0 q1 q2 q3 q4 q5 q6 q7))
    (try simp only[Exit.inBlock,Exit.then]);rw[bM];obtain⟨f1,f2⟩:=JG (va:=.slice none 0 0) (cO.out.trans HS.out.ev) (uk.out.ev HS.out.ev) HO.out (But.aU E6.out) (λg hg=>by rcases HS6.out g hg with h1|h1;exact .inl h1;exact .inr (by simp at h1;omega)) (λk hk=>by cases hk) ae (by have:=rE.out;simp;omega);refine aFe (aZ rfl _ _ _ _ _ rfl (f1.ev aC) underlying93 rfl Tryz.jR) rfl ?_;exact f2.up aC
   have hzk:Z.length=nk:=ae;have HK:=zq (HKF.out Z (by have:=HI.out;rwa [hzk]at this));have HZ6:=HI.out.small HD6.out;obtain⟨⟨p0,p1,p2,p3,p4,p5,p6,p7⟩,_⟩:=(HPB.out.ev HS.out.ev).eight;obtain⟨⟨g0,g1,g2⟩,z0,z1,z2⟩:=(uk.out.ev HS.out.ev).three;have hg6:=(uk.out.ev HS.out.ev).lt;have hsz:=cO.out.size;have hs0:=rE.out;have hsw:=HS.out.ev.size;go_upto_region 10 with fail
   rw[hzk];rcases HGH.out with⟨rfl,-,-,-,-,-,-,hn⟩|⟨rfl,-,hes,-,-,-,-,hn⟩|⟨rfl,-,-,hec,-,-,-,-,-,hn⟩|⟨rfl,-,-,-,-,-,-,hn⟩|⟨rfl,-,-,-,-,-,-,hn⟩|⟨rfl,-,-,-,-,-,-,hn⟩|⟨rfl,-,-,-,-,-,-,hn⟩
   ·have HT:=zq (HTB.out wr (cO.out.trans HS.out.ev));unfold nI at HT;have Ul:Hid (CK=xM D2 m.name):=HK;clear HK
    go_wp2_with (first
     | ((with_reducible refine(HT.out).mono ?_);rintro r_ w6 ⟨v,rfl,hO,Jo,hS6⟩;obtain⟨vA,vc,rfl,zB,zC⟩:=hO.form rD;clear zB zC;have HO:=zq hO;have Nu:=zq Jo;have HS6:=zq hS6;obtain⟨⟨g0,g1,g2⟩,z0,z1,z2⟩:=((uk.out.ev HS.out.ev).ev (Jo.ev (λk hk=>by cases hk))).three;have hg6:=((uk.out.ev HS.out.ev).ev (Jo.ev (λk hk=>by cases hk))).lt;clear hO Jo hS6))
    (try simp only[Exit.inBlock,Exit.then]);rw[bM];obtain⟨f1,f2⟩:=JG (va:=.slice none 0 0) (cO.out.trans HS.out.ev) (uk.out.ev HS.out.ev) HO.out Nu.out HS6.out (λk hk=>by cases hk) ae (by have:=rE.out;simp;omega);exact aH7
   exact absurd HKK.out ai;exact absurd HKK.out ai;exact absurd HKK.out ai
   ·subst hn;obtain⟨z,y,hz⟩:=akV hzk;obtain⟨bz,rfl,hbz,hcz⟩:=HS.out.cell (i:=0) (x:=z) (by rw[hz];rfl);have hc0:=hcz wr aS;have hc1:wr.cell? ⟨bz,1,none⟩=some (.slice y.A y.l.length y.cap):=by
     obtain⟨b2,e2,_,hcy⟩:=HS.out.cell (i:=1) (x:=y) (by rw[hz];rfl);injection e2 with e2
     injection e2 with e2
     subst e2;exact hcy wr aS
    obtain⟨hyC,hyA⟩:=aj_ (HS.out.kid (i:=1) (z:=y) (by rw[hz];rfl) aS);have Ul:Hid (CK=Ar z.l y.l):=zq (by rw[HK.out,hz];rfl);clear HK;go_upto_region 21 with fail
    go_still_tail 6,ah
    generalize hwd:({heap:=wr.heap,tape:=wr.tape,drawn:=wr.drawn+1,os:=wr.os,output:=wr.output}:ak)=wd;have CE:Ev wr wd:=hwd▸Ev.drew wr;have hds:=CE.size;clear hwd;have HT:=zq (afg w0.heap.size (.slice z.A z.l.length z.cap) z.l y.l y.A y.l.length y.cap wd (HS.out.kid (i:=0) (z:=z) (by rw[hz];rfl) CE) (hyC.ev CE) (λad e=>by have:=(hyA ad e).2.1;have:=CE.size;omega));unfold nI at HT
    go_wp2_with (first
     | ((with_reducible refine(HT.out).mono ?_);rintro r_ w6 ⟨v,rfl,hO,Jo,hS6⟩;obtain⟨vA,vc,rfl,zB,zC⟩:=hO.form rD;clear zB zC;have HO:=zq hO;have Nu:=zq Jo;have HS6:=zq hS6;obtain⟨⟨g0,g1,g2⟩,z0,z1,z2⟩:=(((uk.out.ev HS.out.ev).ev CE).but Jo (λhm=>by have h1:=((HS.out.kid (i:=0) (z:=z) (by rw[hz];rfl) CE).lt (aG.1 hm)).1;omega)).three;have hg6:=(((uk.out.ev HS.out.ev).ev CE).but Jo (λhm=>by have h1:=((HS.out.kid (i:=0) (z:=z) (by rw[hz];rfl) CE).lt (aG.1 hm)).1;omega)).lt;clear hO Jo hS6))
    (try simp only[Exit.inBlock,Exit.then]);rw[bM];obtain⟨f1,f2⟩:=JG (va:=.slice z.A z.l.length z.cap) ((cO.out.trans HS.out.ev).trans CE) ((uk.out.ev HS.out.ev).ev CE) HO.out Nu.out HS6.out (λk hk=>by have h1:=((HS.out.kid (i:=0) (z:=z) (by rw[hz];rfl) aS).lt (aG.1 hk)).1;omega) ae (by have:=rE.out;simp;omega);exact aH7
   exact absurd HKK.out ai;subst hn;obtain⟨z,hz⟩:=alU hzk;obtain⟨bz,rfl,hbz,hcz⟩:=HS.out.cell (i:=0) (x:=z) (by rw[hz];rfl);have hc0:=hcz wr aS;obtain⟨hzC,hzA⟩:=aj_ (HS.out.kid (i:=0) (z:=z) (by rw[hz];rfl) aS);have Ul:Hid (CK=DW m.lf.l m.ag.l z.l):=zq (by rw[HK.out,hz];rfl);clear HK;go_upto_region 11 with fail
   go_still_tail 4,ah
   generalize hwd:({heap:=wr.heap,tape:=wr.tape,drawn:=wr.drawn+1,os:=wr.os,output:=wr.output}:ak)=wd;have CE:Ev wr wd:=hwd▸Ev.drew wr;have hds:=CE.size;clear hwd;have HT:=zq (afj m b0 wd (HQ.out.ev ((cO.out.trans HS.out.ev).trans CE)) z.l z.A z.l.length z.cap (hzC.ev CE) (λad e=>by have:=(hzA ad e).2.1;have:=CE.size;omega) HFH.out.2.2.2.2.1 HFH.out.2.2.2.2.2.2.1);unfold nI at HT;rw[hmk,HMN.out,HMA.out,HMC.out]at HT
   go_wp2_with (first
    | ((with_reducible refine(HT.out).mono ?_);rintro r_ w6 ⟨v,rfl,hO,Jo,hS6⟩;obtain⟨vA,vc,rfl,zB,zC⟩:=hO.form rD;clear zB zC;have HO:=zq hO;have Nu:=zq Jo;have HS6:=zq hS6;obtain⟨⟨g0,g1,g2⟩,z0,z1,z2⟩:=(((uk.out.ev HS.out.ev).ev CE).ev (Jo.ev (λk hk=>by cases hk))).three;have hg6:=(((uk.out.ev HS.out.ev).ev CE).ev (Jo.ev (λk hk=>by cases hk))).lt;clear hO Jo hS6))
   (try simp only[Exit.inBlock,Exit.then]);rw[bM];obtain⟨f1,f2⟩:=JG (va:=.slice none 0 0) ((cO.out.trans HS.out.ev).trans CE) ((uk.out.ev HS.out.ev).ev CE) HO.out Nu.out HS6.out (λk hk=>by cases hk) ae (by have:=rE.out;simp;omega);exact aH7
theorem aiN(m:PM)(b0:Nat)(D:List DM)(DA:Option Addr)(dn iE:Nat)(w:ak)(hT:Tab w)(h:Qx b0 [] w m)(hW:WrP m.p)(hK:m.p.inK qL=true)(hno:(fH (printS (aI m.p))).1.every (noT EE)=true)(hd:∀w1,Ev w w1->Calls ax 37 #[.slice DA dn iE] w1 λe w'=>e=.returned (.int .i64 0)/\Ev w1 w')(hD:yH w DA dn iE D)(hDl:∀d∈D,0<d.cols.length/\d.cols.length<=6)(ahk:(ckOf (D.map DM.df) m.p).why=0):
  Calls ax 21 #[.agg ↑m,.slice DA dn iE] w (SQ ((ckOf (D.map DM.df) m.p).cols,0,⟨#[]⟩) w):=by
 have dH:Tryz.prog.follows .mixedOrders=true:=ah;have HDF:=zq hd;have HPR:=zq (λw1 (hE:Ev w w1)=>acx m b0 w1 (hT.ev hE) (h.ev hE) hW hK hno);have hg:=hW.wr.good;have hfit:=hW.wr.fit;have yG:Cj m.p≠[]:=λe=>by have h1:=hW.ne;rw[hW.print]at e;rw[e]at h1;simp at h1
 have HOF:=zq (λw1 (hE:Ev w w1)=>ami m.dep m b0 D DA dn iE w1 (aC8 _) (h.ev hE) hg hfit hK (hD.ev hE) hDl);obtain⟨w0,hw0,aV,hB,_⟩:=Ez w m;obtain⟨⟨p0,p1,p2,p3,p4,p5,p6,p7⟩,_⟩:=hB.eight;have HE:=zq aV;have HB:=zq hB;unfold pv dK.v PM.kv at HPR;unfold nI at HOF;unfold SQ;generalize Cj m.p=PS at*;generalize ckOf (D.map DM.df) m.p=R at*;clear hT h hg hW hK hno hd hDl hfit hD hB aV
 cases PS with
 | nil=>exact absurd rfl yG
 | cons x PS=>
  clear yG;have hne:((⟨(x::PS).toArray⟩:ByteArray).toList==[])=false:=aj;have hw:R.why=0:=ahk;have ZF:(R.why !=0)=false:=by simp[hw]
  go_enter func21,ntmps21
  go_wp2_with (first
   | ((with_reducible refine(HDF.out _ HE.out).mono ?_);rintro e w1 ⟨rfl,aJ⟩;have E1:=zq (HE.out.trans aJ);clear p0 p1 p2 p3 p4 p5 p6 p7;obtain⟨⟨p0,p1,p2,p3,p4,p5,p6,p7⟩,_⟩:=(HB.out.ev aJ).eight;have nY:=zq (HB.out.ev aJ);clear aJ)
   | ((with_reducible refine(HPR.out _ E1.out).mono ?_);rintro e w2 ⟨rfl,dJ⟩;have E2:=zq (E1.out.trans dJ);clear p0 p1 p2 p3 p4 p5 p6 p7;obtain⟨⟨p0,p1,p2,p3,p4,p5,p6,p7⟩,_⟩:=(nY.out.ev dJ).eight;clear dJ)
   | ((with_reducible refine(HOF.out _ E2.out).mono ?_);rintro e w3 ⟨v3,rfl,hO,sK,Oq⟩;obtain⟨vA,vc,rfl,zB,zC⟩:=hO.form rD;clear zB zC;have jW:=sK.ev (λk hk=>by cases hk);have E3:=zq (E2.out.trans jW);have HO:=zq (hO.VP (E2.out.size));clear hO sK Oq jW p0 p1 p2 p3 p4 p5 p6 p7))
  go_ret3
  exact⟨_,rfl,HO.out.ev aC,E3.out.trans aC⟩
end Go.Proofs.YtbgmhhfjkkfhpaaGreatDoor
