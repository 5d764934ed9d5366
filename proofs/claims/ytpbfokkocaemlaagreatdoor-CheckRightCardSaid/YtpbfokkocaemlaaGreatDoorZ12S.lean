import Derived.Deep.Cut
import Derived.Test.YtpbfokkocaemlaaGreatDoorZ10S
set_option linter.unusedVariables false
set_option maxRecDepth 100000
set_option maxHeartbeats 64000000
namespace Go.Proofs.YtpbfokkocaemlaaGreatDoor
open Go.RowKit
open Go.Lib renaming hid → zq
theorem Ae {P:Program} {c R:Code} {Q:Exit→Act→World→Prop} {a:Act} {w:World} (l n:Nat) (JJ:(Nat→Value)→World→Prop) (μ:(Nat→Value)→World→Nat) (hf:findLabel c l=some (.seq .skip R))
  (pass:∀s w,JJ s w→R.wp P (Exit.jump l (fun a' w'=>(a'.defers=[]∧a'.tmps.size=n∧JJ (fun d=>a'.eval (.tmp d)) w')∧μ (fun d=>a'.eval (.tmp d)) w'<μ s w) Q) ⟨((List.range n).map s).toArray,[]⟩ w)
  (first:(∀(a:Act) w,a.defers=[]→a.tmps.size=n→JJ (fun d=>a.eval (.tmp d)) w→R.wp P (Exit.jump l (fun a' w'=>a'.defers=[]∧a'.tmps.size=n∧JJ (fun d=>a'.eval (.tmp d)) w') Q) a w)→
   c.wp P (Exit.jump l (fun a' w'=>a'.defers=[]∧a'.tmps.size=n∧JJ (fun d=>a'.eval (.tmp d)) w') Q) a w):(Code.scope c).wp P Q a w:=by
 have acN:∀(a:Act) w,(a.defers=[]∧a.tmps.size=n∧JJ (fun d=>a.eval (.tmp d)) w)→R.wp P (Exit.jump l (fun a' w'=>(a'.defers=[]∧a'.tmps.size=n∧JJ (fun d=>a'.eval (.tmp d)) w')∧(fun (a:Act) w=>μ (fun d=>a.eval (.tmp d)) w) a' w'<(fun (a:Act) w=>μ (fun d=>a.eval (.tmp d)) w) a w) Q) a w:=by
  rintro a w ⟨h1,h2,h3⟩;have:=pass (fun d=>a.eval (.tmp d)) w h3;have e:a=⟨((List.range n).map fun d=>a.eval (.tmp d)).toArray,[]⟩:=by rw[←h1];exact wG h2
  rw[←e]at this;exact this
 refine wp_scope_jumps l _ (fun a w=>μ (fun d=>a.eval (.tmp d)) w) hf (first fun a w h1 h2 h3=>Code.wp_mono ?_ (acN a w ⟨h1,h2,h3⟩)) (fun a w h=>wp_seq (wp_skip (acN a w h)));intro e a' w' h;cases e with
 | goto l'=>exact⟨h.1,h.2.1⟩
 | _=>exact h
theorem TF (B:By) (c:UInt8) (q:By) (i:Nat) (hp:bV c=false) (hc:c.toNat=92):sxTextGo B (c::q) i=
  if (sxEscaped q).2=0 then sxTextGo (B++[(sxEscaped q).1]) (q.drop 2) (i+3) else if (sxEscaped q).2=10 then aV 10 (i+1+q.length) else aV 12 i:=by
 conv=>lhs;unfold sxTextGo
 rw[hp];simp only[atE,if_false,hc]
 cases q with
 | nil=>simp[sxEscaped]
 | cons x q1=>
  cases hx:gV x with
  | none=>simp[sxEscaped,hx]
  | some a=>
   cases q1 with
   | nil=>simp[sxEscaped,hx]
   | cons y q2=>
    cases hy:gV y with
    | none=>simp[sxEscaped,hx,hy]
    | some b=>simp[sxEscaped,hx,hy]
theorem Ws (q:By):(sxEscaped q).2=0∨(sxEscaped q).2=10∨(sxEscaped q).2=12:=by
 cases q with
 | nil=>simp[sxEscaped]
 | cons x q1=>
  cases hx:gV x with
  | none=>simp[sxEscaped,hx]
  | some a=>
   cases q1 with
   | nil=>simp[sxEscaped,hx]
   | cons y q2=>
    cases hy:gV y with
    | none=>simp[sxEscaped,hx,hy]
    | some b=>simp[sxEscaped,hx,hy]
theorem Wu (q:By):(sxEscaped q).2=0→2≤q.length:=by
 cases q with
 | nil=>simp[sxEscaped]
 | cons x q1=>
  cases q1 with
  | nil=>cases hx:gV x<;>simp[sxEscaped,hx]
  | cons y q2=>intro _;simp
structure TG (g:Nat) (w0:World) (A:Option Addr) (n cap:Nat) (b:By) (w:World):Prop where
 row:Row w (.slice A n cap) b
 len:b.length=n
 high:∀k,(Value.slice A n cap).ownBlock=some k→g<k
 box:jW g (aV 0 0) w
 ev:Ev w0 w
 base:w0.heap.size≤g
theorem TG.step {g:Nat} {w0 w w1:World} {A:Option Addr} {n cap:Nat} {b B1:By} {v1:Value} (h:TG g w0 A n cap b w) (hr:Row w1 v1 B1) (hb:But (foot (.slice A n cap)) w w1) (hs:eX w (.slice A n cap) v1):
  ∃A1 n1 cap1,v1=.slice A1 n1 cap1∧TG g w0 A1 n1 cap1 B1 w1:=by
 obtain⟨A1,cap1,rfl,_,_,_⟩:=hr.bs;have hl:=h.box.lt;refine⟨A1,_,cap1,rfl,hr,rfl,fun k hk=>?_,h.box.but hb (fun hm=>Nat.lt_irrefl _ (h.high _ (aB.1 hm))),?_,h.base⟩;rcases hs k hk with h1|h1;exact h.high k h1;omega;exact ((But.aS (K:=foot (.slice A n cap)) h.ev).then hb).ev fun k hk=>by have:=h.high k (aB.1 hk);have:=h.base;omega
theorem TG.evs {g:Nat} {w0 w w1:World} {A:Option Addr} {n cap:Nat} {b:By} (h:TG g w0 A n cap b w) (hE:Ev w w1):TG g w0 A n cap b w1:=
 ⟨h.row.ev hE,h.len,h.high,h.box.ev hE,h.ev.trans hE,h.base⟩
theorem mF (why:Int) (fault:Nat) (w:World):
  Calls Tryz.prog 150 #[.int .i64 why,.int .i64 (fault:Int)] w fun e w'=>e=.returned (.agg #[.int .i64 0,.string ⟨#[]⟩,.int .i64 0,.slice none 0 0,.int .i64 0,.int .i64 0,.int .i64 why,.int .i64 (fault:Int)])∧Ev w w':=Qb why fault w
theorem xH (w:World) (x:UInt8):Bs (w.alloc (.cells #[.int .u8 (x.toNat:Int)] 5)) (some ⟨w.heap.size,0,none⟩) 1 1 [x]:=Bs.made [x] _ rfl (by simp)
theorem Cj (l:By) (j:Nat) (c:UInt8) (h:l[j]?=some c):l.drop j=c::l.drop (j+1):=by obtain⟨hj,e⟩:=atr.1 h;rw[auu hj,e]
theorem axt {P:Prop} (h:P:=by rw[eY];refine bodyPost_ret (je _ B4 _ _ _ _ _ _ rfl rfl) rfl ?_;exact⟨by rw[rV.out];rfl,E4.mZ (fV _ _ _ _ _ _ _ _) (att _)⟩):P:=h
theorem axc {P:Prop} (h:P:=by simp only[Exit.jump];exact axt):P:=h
theorem avW {P:Prop} (h:P:=by
 go_wp2_with (first|((with_reducible refine (HW.out _).mono ?_);rintro e w4 ⟨rfl,gI⟩;have B4:=(ST1.evs gI).box;have E4:=(ST1.evs gI).ev;obtain⟨c0,c1,c2,c3,c4,c5,c6,c7⟩:=B4.cs;obtain⟨f0,f1,f2,f3,f4,f5,f6,f7⟩:=B4.fs))
 exact axc):P:=h
theorem avN {P:Prop} (h:P:=by
 go_wp2_with (first
  | ((with_reducible refine (HE.out _).mono ?_);rintro e w4 ⟨rfl,rfl⟩)
  | ((with_reducible refine (HW.out _).mono ?_);rintro e w4 ⟨rfl,gI⟩;have B4:=(ST1.evs gI).box;have E4:=(ST1.evs gI).ev;obtain⟨c0,c1,c2,c3,c4,c5,c6,c7⟩:=B4.cs;obtain⟨f0,f1,f2,f3,f4,f5,f6,f7⟩:=B4.fs))
 exact axc):P:=h
theorem abl (s0:ByteArray) (w:World) (h1s:1≤s0.size) (hs:s0.size≤100000):
  Calls Tryz.prog 145 #[.string s0] w fun e w'=>e=.returned (Yd (sxTextGo [] (s0.data.toList.drop 1) 1))∧Ev w w':=by
 have jd:s0.data.toList.length=s0.size:=by rw[atU];rfl
 obtain⟨Y,hY⟩:∃Y,Y=sxTextGo [] (s0.data.toList.drop 1) 1:=⟨_,rfl⟩
 rw[←hY];have HY:=zq hY;have HL:=zq jd;clear hY jd;go_enter Tryz.func145,Tryz.ntmps145;go_wp2;refine Ae 0 78 (fun s w2=>s 0=.string s0∧s 2=.pointer (some ⟨w.heap.size,0,none⟩)∧∃(b:By) (i n cap:Nat) (A:Option Addr),s 3=.slice A n cap∧s 4=.int .i64 (i:Int)∧1≤i∧i≤s0.size∧n≤i∧TG w.heap.size w A n cap b w2∧Hid (Y=sxTextGo b (s0.data.toList.drop i) i)) (fun s _=>s0.size - (intOf (s 4)).toNat) rfl ?_ ?_
 ·rintro s w2 ⟨h0,h2,b,i,n,cap,A,h3,h4,hi1,hi,hni,ST,HT⟩;change Code.wp _ _ _ ⟨#[s 0,s 1,s 2,s 3,s 4,s 5,s 6,s 7,s 8,s 9,s 10,s 11,s 12,s 13,s 14,s 15,s 16,s 17,s 18,s 19,s 20,s 21,s 22,s 23,s 24,s 25,s 26,s 27,s 28,s 29,s 30,s 31,s 32,s 33,s 34,s 35,s 36,s 37,s 38,s 39,s 40,s 41,s 42,s 43,s 44,s 45,s 46,s 47,s 48,s 49,s 50,s 51,s 52,s 53,s 54,s 55,s 56,s 57,s 58,s 59,s 60,s 61,s 62,s 63,s 64,s 65,s 66,s 67,s 68,s 69,s 70,s 71,s 72,s 73,s 74,s 75,s 76,s 77],[]⟩ _;simp only[h0,h2,h3,h4];clear h0 h2;obtain⟨r,hr⟩:∃r:ByteArray,r=s0.extract i s0.size:=⟨_,rfl⟩
  have hx:s0.extract i s0.size=r:=hr.symm;have hrl:r.data.toList=s0.data.toList.drop i:=by rw[hr,Lib.extract_eq,atJ (by rw[at1,HL.out];exact att _)]
  have hrz:r.size=s0.size - i:=by
   have:r.data.toList.length=r.size:=by rw[atU];rfl
   rw[←this,hrl,at1,HL.out]
  have HR:=zq (fun w1=>H9 r w1 (by omega));rw[hrl]at HR;have adO:=jr bV (s0.data.toList.drop i);have hstop:=fun c h=>H5 bV (s0.data.toList.drop i) c h;have hgo:=Ci (s0.data.toList.drop i) b i;rw[←HT.out,List.drop_drop]at hgo;rw[at1,HL.out]at adO;generalize hp:sxRun bV (s0.data.toList.drop i)=p at*;have hml:(s0.extract i (i+p)).data.toList=(s0.data.toList.drop i).take p:=by rw[Lib.extract_eq,show i+p - i=p by omega]
  have hmz:(s0.extract i (i+p)).size=p:=by
   have:(s0.extract i (i+p)).data.toList.length=(s0.extract i (i+p)).size:=by rw[atU];rfl
   rw[←this,hml,aua,at1,HL.out];omega
  have YD:∀c,s0.data.toList[i+p]?=some c→bV c=false:=fun c h=>hstop c (by rw[List.getElem?_drop];exact h);have HS:=zq YD;have HG:=zq hgo;have HM:=zq hml;have HB:=zq ST.len;have HZ:=zq hmz;clear hstop YD hgo hr hrl hp hml hmz HT;go_upto_region 6 with (first
   | ((with_reducible refine (HR.out _).mono ?_);rintro e w3 ⟨rfl,rfl⟩)
   | ((show wpList _ _ _ (⟨some 19,_,_,_,_,_⟩::_) _ _);refine uY (o:=⟨some 19,_,_,_,_,_⟩) rfl (.tmp 12) (.tmp 18) rfl Tryz.underlying93 Tryz.underlying9 Tryz.D8 (.slice A n cap) b rfl ST.row (s0.extract i (i+p)) rfl (by rw[HB.out,HZ.out];omega) ?_;intro v1 w3 hr1 hb1 hs1;obtain⟨A1,n1,cap1,rfl,ST1⟩:=ST.step hr1 hb1 hs1))
  rw[HM.out]at ST1;have qF:n1≤i+p:=by rw[←ST1.len,atv,aua,HB.out];omega
  have hj:i+p≤s0.size:=by omega
  have e1:(i:Int)+(p:Int)=((i+p:Nat):Int):=by omega
  simp only[e1];generalize b++(s0.data.toList.drop i).take p=B1 at*;have AX:i≤i+p:=by omega
  generalize i+p=j at*;clear hr1 hs1 hb1 HM HZ HR ST e1;by_cases hjz:j=s0.size;have rV:Hid (Y=aV 10 s0.size):=zq (by
   rw[HG.out,auh (by rw[HL.out];omega),hjz];rfl)
  have e2:(j:Int)=(s0.size:Int):=by omega
  have HW:=zq (fun w1=>mF 10 s0.size w1);clear HG hjz;exact avW;have hlt:j<s0.size:=by omega
  have hat:=qN s0 j hlt;obtain⟨c,hc⟩:∃c,s0[j]=c:=⟨_,rfl⟩
  have hidx:∀hh,s0[j]'hh=c:=fun _=>hc;rw[hc]at hat;have hpl:=HS.out c hat;have hdr:=Cj _ _ _ hat;clear hc;have e2:¬((j:Int)=(s0.size:Int)):=by omega
  have e2':((j:Int)==(s0.size:Int))=false:=atp.2 e2;have hjm:j≤100000:=by omega
  by_cases SI:c.toNat=92
  ·have hsp:=TF B1 c (s0.data.toList.drop (j+1)) j hpl SI;rw[←hdr,←HG.out]at hsp;have e3:(c.toNat:Int)=92:=by omega
   obtain⟨y,hy⟩:∃y:ByteArray,y=s0.extract (j+1) s0.size:=⟨_,rfl⟩
   have hxy:s0.extract (j+1) s0.size=y:=hy.symm;have yD:y.data.toList=s0.data.toList.drop (j+1):=by rw[hy,Lib.extract_eq,atJ (by rw[at1,HL.out];exact att _)]
   have hyz:y.size=s0.size - (j+1):=by
    have:y.data.toList.length=y.size:=by rw[atU];rfl
    rw[←this,yD,at1,HL.out]
   have HE:=fun w1=>TD y w1 (by omega);rw[yD]at HE;rw[at1,HL.out,List.drop_drop]at hsp;have af4:=Ws (s0.data.toList.drop (j+1));have hlen:=Wu (s0.data.toList.drop (j+1));rw[at1,HL.out]at hlen;generalize sxEscaped (s0.data.toList.drop (j+1))=R at*;obtain⟨x,why⟩:=R;simp only at HE hsp af4 hlen;have HE:=zq HE;have rV:=zq hsp;clear hsp hy yD hat hdr hpl HG;rcases af4 with rfl|rfl|rfl
   ·have hj3:j+3≤s0.size:=by have:=hlen rfl;omega
    have sW:=zq (xH w3 x);have vZ:=zq ST1.len;have Wv:Hid (Y=sxTextGo (B1++[x]) (s0.data.toList.drop (j+3)) (j+3)):=zq (by rw[rV.out];rfl);clear rV hlen
    go_wp2_with (first
     | ((with_reducible refine (HE.out _).mono ?_);rintro e w4 ⟨rfl,rfl⟩)
     | ((show wpList _ _ _ (⟨some 57,_,_,_,_,_⟩::_) _ _);refine og (o:=⟨some 57,_,_,_,_,_⟩) rfl (.tmp 54) (.tmp 56) rfl Tryz.underlying93 Tryz.D8 (.slice A1 n1 cap1) B1 rfl (ST1.row.ev (Ev.alloc _ _)) (some ⟨w3.heap.size,0,none⟩) 1 1 [x] rfl sW.out (by rw[vZ.out];simp;omega) ?_;intro v2 w5 hr2 hb2 hs2;obtain⟨A2,n2,cap2,rfl,ST2⟩:=(ST1.evs (Ev.alloc _ _)).step hr2 hb2 hs2))
    go_step3
    exact⟨rfl,⟨rfl,rfl,rfl,rfl,B1++[x],j+3,n2,cap2,A2,rfl,rfl,by omega,hj3,by rw[←ST2.len,atv,vZ.out];simp;omega,ST2,Wv⟩,by simp[Act.eval,intOf];omega⟩
   have Wv:Hid (Y=aV 10 s0.size):=zq (by rw[rV.out];simp;rw[show j+1+(s0.size - (j+1))=s0.size by omega]);clear rV hlen;have rV:=Wv;clear Wv;have HW:=zq (fun w1=>mF 10 s0.size w1);exact avN;have Wv:Hid (Y=aV 12 j):=zq (by rw[rV.out];simp);clear rV hlen;have rV:=Wv;clear Wv;have HW:=zq (fun w1=>mF 12 j w1);exact avN
  have ajl:(c.toNat==92)=false:=atp.2 SI;have e3:¬((c.toNat:Int)=92):=by omega
  have e3':((c.toNat:Int)==92)=false:=atp.2 e3;by_cases Ib:c.toNat=34
  ·have rV:Hid (Y=if 40<B1.length then aV 3 0 else ⟨4,B1,0,j+1,0,0⟩):=zq (by
    rw[HG.out,hdr];unfold sxTextGo;rw[hpl];simp[Ib])
   have e4:(c.toNat:Int)=34:=by omega
   have hln:=ST1.len;rw[hln]at rV;clear hdr hat HG hpl;by_cases Gq:40<n1;have Wv:Hid (Y=aV 3 0):=zq (by rw[rV.out,if_pos Gq]);clear rV;have rV:=Wv;clear Wv;have HW:=fun w1=>mF 3 0 w1;rw[show (((0:Nat):Int))=0 from rfl]at HW;have HW:=zq HW;have e5:(40:Int)<(n1:Int):=by omega
   exact avW;have Wv:Hid (Y=⟨4,B1,0,j+1,0,0⟩):=zq (by rw[rV.out,if_neg Gq]);clear rV;have rV:=Wv;clear Wv;have e5:¬((40:Int)<(n1:Int)):=by omega
   have B4:=ST1.box;have E4:=ST1.ev;obtain⟨c0,c1,c2,c3,c4,c5,c6,c7⟩:=B4.cs;obtain⟨f0,f1,f2,f3,f4,f5,f6,f7⟩:=B4.fs;obtain⟨Wx,wH,hv,hbs,_,_⟩:=ST1.row.bs;rw[hln]at hv hbs;injection hv with KZ hv2 hv3
   subst KZ;subst hv3;have hcv:=hbs.str 93 9 5 Tryz.underlying93 Tryz.underlying5 Tryz.underlying9;go_wp2;exact axc
  have rV:Hid (Y=aV 12 j):=zq (by
   rw[HG.out,hdr];unfold sxTextGo;rw[hpl];simp[ajl,Ib])
  have e4:¬((c.toNat:Int)=34):=by omega
  have e4':((c.toNat:Int)==34)=false:=atp.2 e4;have HW:=zq (fun w1=>mF 12 j w1);clear hdr hat HG hpl;exact avW
 intro H;go_wp2
 go_step3
 rename_i hK;refine hK _ _ (H _ _ ?_ ?_ ?_);rfl;rfl;exact⟨rfl,rfl,[],1,0,0,none,rfl,rfl,by omega,h1s,by omega,⟨Row.nil_ _,rfl,by simp[Value.ownBlock],jW.new (aV 0 0) w,Ev.alloc _ _,att _⟩,HY⟩
theorem YE (s:ByteArray) (w:World) (hs:s.size≤100000):
  Calls Tryz.prog 149 #[.string s] w fun e w'=>e=.returned (.string s)∧Ev w w':=by
 have HC:=zq (fun w1=>Tryz.stringslite_Clone s w1 (by omega));go_enter Tryz.func149,Tryz.ntmps149
 go_wp2_with (first|((with_reducible refine (HC.out _).mono ?_);rintro x w1 ⟨rfl,aH⟩))
 go_ret;exact⟨rfl,aH⟩
theorem av7 {P:Prop} (h:P:=by have B4:=B0;have E4:=aT;obtain⟨c0,c1,c2,c3,c4,c5,c6,c7⟩:=B4.cs;obtain⟨f0,f1,f2,f3,f4,f5,f6,f7⟩:=B4.fs;clear hTX hNU hRU hDI hLE Gs hY hrl jd;go_enter Tryz.func108,Tryz.ntmps108;go_wp2;exact axt):P:=h
theorem axJ {P:Prop} (h:P:=by rw[eY];refine bodyPost_ret (je _ B4 _ _ _ _ _ _ rfl rfl) rfl ?_;exact⟨rfl,E4.mZ (fV _ _ _ _ _ _ _ _) (att _)⟩):P:=h
theorem avY {P:Prop} (h:P:=by
 go_enter Tryz.func108,Tryz.ntmps108
 go_wp2_with (first|((with_reducible refine (HW.out _).mono ?_);rintro e w4 ⟨rfl,gI⟩;have B4:=B0.ev gI;have E4:=aT.trans gI;obtain⟨c0,c1,c2,c3,c4,c5,c6,c7⟩:=B4.cs;obtain⟨f0,f1,f2,f3,f4,f5,f6,f7⟩:=B4.fs))
 exact axJ):P:=h
theorem abm (s0:ByteArray) (w:World) (h1s:1≤s0.size) (hs:s0.size≤100000):
  Calls Tryz.prog 108 #[.string s0] w fun e w'=>e=.returned (Yd (bF s0.data.toList))∧Ev w w':=by
 obtain⟨Y,hY⟩:∃Y,Y=bF s0.data.toList:=⟨_,rfl⟩
 rw[←hY];have hat:=qN s0 0 h1s;have hTX:=fun w1=>abl s0 w1 h1s hs;have hNU:=fun w1=>Wq s0 w1 hs;have hRU:=fun w1=>Gn s0 w1 (by omega);have jd:s0.data.toList.length=s0.size:=by rw[atU];rfl
 obtain⟨c,hc⟩:∃c,s0[0]=c:=⟨_,rfl⟩
 have hidx:∀hh,s0[0]'hh=c:=fun _=>hc;rw[hc]at hat;clear hc;obtain⟨q,hl⟩:∃q,s0.data.toList=c::q:=by
  cases h:s0.data.toList with
  | nil=>rw[h]at hat;simp at hat
  | cons x q=>rw[h]at hat;simp at hat;exact⟨q,by rw[hat]⟩
 rw[hl]at hY hTX hNU hRU;rw[hl]at jd;have hrl:=jr bf (c::q);rw[jd]at hrl;have hDI:=H6 c;have hLE:=Fe c;have Gs:∀r,(s0.extract 0 r).data.toList=(c::q).take r:=fun r=>by rw[Lib.extract_eq,hl];simp
 simp only[at6,auC]at hTX;clear hat hl;obtain⟨w0,hw0⟩:∃w0,w0=w.alloc (.cells (Vu (aV 0 0)) 157):=⟨_,rfl⟩
 have B0:jW w.heap.size (aV 0 0) w0:=hw0▸jW.new (aV 0 0) w;have aT:Ev w w0:=hw0▸Ev.alloc w _;have Wp:w.alloc (.cells #[.int .i64 0,.string ⟨#[]⟩,.int .i64 0,.slice none 0 0,.int .i64 0,.int .i64 0,.int .i64 0,.int .i64 0] 157)=w0:=hw0.symm;clear hw0;by_cases Gq:c.toNat=40;have rV:Hid (Y=⟨1,[],0,1,0,0⟩):=zq (by rw[hY];simp[bF,Gq]);have e1:(c.toNat:Int)=40:=by omega
 exact av7;have n40:(c.toNat==40)=false:=atp.2 Gq;have e1:¬((c.toNat:Int)=40):=by omega
 have e1':((c.toNat:Int)==40)=false:=atp.2 e1;by_cases YF:c.toNat=41;have rV:Hid (Y=⟨-1,[],0,1,0,0⟩):=zq (by rw[hY];simp[bF,YF]);have e2:(c.toNat:Int)=41:=by omega
 exact av7;have n41:(c.toNat==41)=false:=atp.2 YF;have e2:¬((c.toNat:Int)=41):=by omega
 have e2':((c.toNat:Int)==41)=false:=atp.2 e2;by_cases Ib:c.toNat=34;have hY2:Y=sxTextGo [] q 1:=by rw[hY];simp[bF,Ib]
 have e3:(c.toNat:Int)=34:=by omega
 rw[←hY2]at hTX;clear hY hY2 hNU hRU hDI hLE Gs hrl jd;obtain⟨k,ys,n,z,y,f⟩:=Y;have HW:=zq hTX;simp only[Yd,Vu]at HW;clear hTX;exact avY;have n34:(c.toNat==34)=false:=atp.2 Ib;have e3:¬((c.toNat:Int)=34):=by omega
 have e3':((c.toNat:Int)==34)=false:=atp.2 e3;obtain⟨dg,K_⟩:∃dg,aW c=dg:=⟨_,rfl⟩
 rw[K_]at hDI;have HD:=zq hDI;clear hTX hDI;by_cases hnum:c.toNat=45∨dg=true
 ·have hY2:Y=dI (c::q):=by rw[hY];rcases hnum with h|h;simp[bF,h];simp[bF,n40,n41,n34,K_,h]
  rw[←hY2]at hNU;clear hY hY2 hRU hLE Gs hrl jd K_;obtain⟨k,ys,n,z,y,f⟩:=Y;have HW:=zq hNU;simp only[Yd,Vu]at HW;clear hNU;by_cases h45:c.toNat=45;have e4:(c.toNat:Int)=45:=by omega
  clear hnum;exact avY;have e4:¬((c.toNat:Int)=45):=by omega
  have e4':((c.toNat:Int)==45)=false:=atp.2 e4;obtain rfl:dg=true:=by rcases hnum with h|h;exact absurd h h45;exact h
  clear hnum;go_enter Tryz.func108,Tryz.ntmps108
  go_wp2_with (first|((with_reducible refine (HD.out _).mono ?_);rintro e w3 ⟨rfl,rfl⟩)|((with_reducible refine (HW.out _).mono ?_);rintro e w4 ⟨rfl,gI⟩;have B4:=B0.ev gI;have E4:=aT.trans gI;obtain⟨c0,c1,c2,c3,c4,c5,c6,c7⟩:=B4.cs;obtain⟨f0,f1,f2,f3,f4,f5,f6,f7⟩:=B4.fs))
  exact axJ
 have n45:(c.toNat==45)=false:=atp.2 (fun h=>hnum (.inl h));have e4:¬((c.toNat:Int)=45):=fun h=>hnum (.inl (by omega));have e4':((c.toNat:Int)==45)=false:=atp.2 e4;obtain rfl:dg=false:=by
  cases dg
  rfl;exact absurd (.inr rfl) hnum
 obtain⟨lt,hlt⟩:∃lt,bf c=lt:=⟨_,rfl⟩
 rw[hlt]at hLE;have pg:=zq hLE;clear hLE hNU hnum
 cases lt
 ·have rV:Hid (Y=aV 12 0):=zq (by rw[hY];simp[bF,n40,n41,n34,n45,K_,hlt]);have HW:=fun w1=>mF 12 0 w1;rw[show (((0:Nat):Int))=0 from rfl]at HW;have HW:=zq HW;clear hY hRU Gs hrl jd K_ hlt;go_enter Tryz.func108,Tryz.ntmps108
  go_wp2_with (first|((with_reducible refine (HD.out _).mono ?_);rintro e w3 ⟨rfl,rfl⟩)|((with_reducible refine (pg.out _).mono ?_);rintro e w3 ⟨rfl,rfl⟩)|((with_reducible refine (HW.out _).mono ?_);rintro e w4 ⟨rfl,gI⟩;have B4:=B0.ev gI;have E4:=aT.trans gI;obtain⟨c0,c1,c2,c3,c4,c5,c6,c7⟩:=B4.cs;obtain⟨f0,f1,f2,f3,f4,f5,f6,f7⟩:=B4.fs))
  exact axt
 have hY2:Y=⟨2,(c::q).take (sxRun bf (c::q)),0,sxRun bf (c::q),0,0⟩:=by rw[hY];simp[bF,n40,n41,n34,n45,K_,hlt]
 generalize sxRun bf (c::q)=r at*;obtain⟨x,hx⟩:∃x:ByteArray,x=s0.extract 0 r:=⟨_,rfl⟩
 have SK:s0.extract 0 r=x:=hx.symm;have iq:x.data.toList=(c::q).take r:=by rw[hx,Gs]
 have hxz:x.size≤100000:=by
  have:x.data.toList.length=x.size:=by rw[atU];rfl
  rw[←this,iq,aua];omega
 have rV:Hid (Y=⟨2,x.data.toList,0,r,0,0⟩):=zq (by rw[hY2,iq]);have HCL:=zq (fun w1=>YE x w1 hxz);have HRU:=zq hRU;clear hY hY2 hRU Gs K_ hlt iq hxz hx;go_enter Tryz.func108,Tryz.ntmps108
 go_wp2_with (first|((with_reducible refine (HD.out _).mono ?_);rintro e w3 ⟨rfl,rfl⟩)|((with_reducible refine (pg.out _).mono ?_);rintro e w3 ⟨rfl,rfl⟩)|((with_reducible refine (HRU.out _).mono ?_);rintro e w3 ⟨rfl,rfl⟩)|((with_reducible refine (HCL.out _).mono ?_);rintro e w4 ⟨rfl,gI⟩;have B4:=B0.ev gI;have E4:=aT.trans gI;obtain⟨c0,c1,c2,c3,c4,c5,c6,c7⟩:=B4.cs;obtain⟨f0,f1,f2,f3,f4,f5,f6,f7⟩:=B4.fs))
 exact axt
inductive M where
 | mk (kind:Int) (s:By) (n:Int) (A:Option Addr) (cap:Nat) (kids:List M) (pos:Nat):M
def M.kind:M→Int
 | .mk k _ _ _ _ _ _=>k
def M.s:M→By
 | .mk _ s _ _ _ _ _=>s
def M.n:M→Int
 | .mk _ _ n _ _ _ _=>n
def M.A:M→Option Addr
 | .mk _ _ _ a _ _ _=>a
def M.cap:M→Nat
 | .mk _ _ _ _ c _ _=>c
def M.kids:M→List M
 | .mk _ _ _ _ _ l _=>l
def M.pos:M→Nat
 | .mk _ _ _ _ _ _ p=>p
mutual
def M.t:M→T
 | .mk k s n _ _ l p=>.mk k s n (M.ts l) p
def M.ts:List M→List T
 | []=>[]
 | m::l=>m.t::M.ts l
end
theorem M.ji:∀l:List M,M.ts l=l.map M.t
 | []=>by simp[M.ts]
 | m::l=>by simp[M.ts,M.ji l]
theorem M.qO (m:M):m.t=.mk m.kind m.s m.n (m.kids.map M.t) m.pos:=by
 cases m
 simp[M.t,M.ji,M.kind,M.s,M.n,M.kids,M.pos]
theorem M.aY (m:M):m.t.kids=m.kids.map M.t:=by rw[M.qO];rfl
theorem M.vW (m:M):m.t.kind=m.kind:=by rw[M.qO];rfl
theorem M.Ff (m:M):m.t.pos=m.pos:=by rw[M.qO];rfl
def M.kv (m:M):Value:=.slice m.A m.kids.length m.cap
def mc (m:M):List Value:=[.int .i64 m.kind,.string ⟨m.s.toArray⟩,.int .i64 m.n,m.kv,.int .i64 (m.pos:Int)]
def mv (m:M):Value:=.agg #[.int .i64 m.kind,.string ⟨m.s.toArray⟩,.int .i64 m.n,m.kv,.int .i64 (m.pos:Int)]
abbrev Ms:=Sl 5 mc
def jX (l:List M):List Value:=l.flatMap mc
theorem kG (l:List M):(jX l).length=l.length*5:=by
 induction l with
 | nil=>rfl
 | cons x l ih=>
  have:(jX (x::l)).length=5+(jX l).length:=by simp[jX,mc];omega
  rw[this,ih,atF];omega
theorem oh (l m:List M):jX (l++m)=jX l++jX m:=by simp[jX]
theorem nK (m:M):jX [m]=mc m:=by simp[jX]
theorem D_:∀(l:List M) (i:Nat) (x:M),l[i]?=some x→∀j u,(mc x)[j]?=some u→(jX l)[i*5+j]?=some u
 | [],_,_,h,_,_,_=>by simp at h
 | y::l,0,x,h,j,u,hu=>by simp at h;subst h;have hj:j<5:=(atr.1 hu).1;have e:jX (y::l)=mc y++jX l:=rfl;rw[e,aud,atT,au9 (by simpa[mc] using hj)];exact hu
 | y::l,i+1,x,h,j,u,hu=>by have e:jX (y::l)=mc y++jX l:=rfl;have hl:(mc y).length=5:=rfl;rw[e,au7 (by rw[hl];omega),hl,show (i+1)*5+j - 5=i*5+j by omega];exact D_ l i x (by simpa using h) j u hu
theorem AZ (l:List M):∀u∈jX l,u.oneCell'=true:=by intro u hu;obtain⟨x,_,hx⟩:=auP.1 hu;simp[mc,M.kv]at hx;rcases hx with rfl|rfl|rfl|rfl|rfl<;>rfl
inductive Lies (b0:Nat) (K:List Nat) (w:World):M→Prop
 | mk {kind:Int} {s:By} {n:Int} {A:Option Addr} {cap:Nat} {kids:List M} {pos:Nat}:Ms w A kids.length cap kids→(∀ad,A=some ad→b0≤ad.block∧ad.block<w.heap.size∧ad.block∉K)→(∀k∈kids,Lies b0 K w k)→
   Lies b0 K w (.mk kind s n A cap kids pos)
theorem Lies.ms {b0:Nat} {K:List Nat} {w:World} {m:M} (h:Lies b0 K w m):Ms w m.A m.kids.length m.cap m.kids:=by
 cases h with
 | mk h1 h2 h3=>exact h1
theorem Lies.kid {b0:Nat} {K:List Nat} {w:World} {m:M} (h:Lies b0 K w m):∀k∈m.kids,Lies b0 K w k:=by
 cases h with
 | mk h1 h2 h3=>exact h3
theorem awl {P:Prop} (h:P:=by
 induction h with
 | mk h1 h2 h3 ih=>
  refine .mk (h1.but hb fun ad e=>(h2 ad e).2.2) (fun ad e=>⟨(h2 ad e).1,atM (h2 ad e).2.1 hb.size,fun hm=>?_⟩) ih;rcases hs _ hm with h4|h4|h4;exact (h2 ad e).2.2 h4;have:=(h2 ad e).1;omega;have:=(h2 ad e).2.1;omega):P:=h
theorem Lies.move {b0:Nat} {K K':List Nat} {w w':World} {m:M} (h:Lies b0 K w m) (hb:But K w w') (hs:∀x∈K',x∈K∨x<b0∨w.heap.size≤x):Lies b0 K' w' m:=by exact awl
theorem Lies.ev {b0:Nat} {K:List Nat} {w w':World} {m:M} (h:Lies b0 K w m) (hE:Ev w w'):Lies b0 K w' m:=h.move (But.aS hE) fun _ hx=>.inl hx
theorem ax1 {P:Prop} (h:P:=by
 induction h with
 | mk h1 h2 h3 ih=>exact .mk h1 (fun ad e=>⟨atP hb (h2 ad e).1,(h2 ad e).2⟩) ih):P:=h
theorem Lies.low {b0 b1:Nat} {K:List Nat} {w:World} {m:M} (h:Lies b1 K w m) (hb:b0≤b1):Lies b0 K w m:=by exact ax1
theorem Lies.less {b0:Nat} {K K':List Nat} {w:World} {m:M} (h:Lies b0 K w m) (hs:∀x∈K',x∈K∨x<b0∨w.heap.size≤x):Lies b0 K' w m:=h.move (But.refl _ _) hs
def blk (v:Value) (os:List M):List Nat:=foot v++os.flatMap fun e=>foot e.kv
structure Opn (base:Nat) (w:World) (v:Value) (os:List M):Prop where
 own:w.ownsRow base 101 5 v os.length (jX os)
 kid:∀e∈os,w.ownsRow base 101 5 e.kv e.kids.length (jX e.kids)
 nd:(blk v os).Nodup
 lies:∀e∈os,∀m∈e.kids,Lies base (blk v os) w m
theorem Vx {K:List Nat} {w w':World} {base:Nat} {e:TypeId} {size:Nat} {v:Value} {n:Nat} {xs:List Value} (h:w.ownsRow base e size v n xs) (hb:But K w w') (hn:∀g,v.ownBlock=some g→g∉K):w'.ownsRow base e size v n xs:=by exact axe
theorem xI {v:Value} {os:List M} {g:Nat}:g∈blk v os↔v.ownBlock=some g∨∃e∈os,e.kv.ownBlock=some g:=by unfold blk;simp[aB]
theorem Opn.range {base:Nat} {w:World} {v:Value} {os:List M} (h:Opn base w v os) {g:Nat} (hg:g∈blk v os):base≤g∧g<w.heap.size:=by
 rcases xI.1 hg with h1|⟨e,he,h1⟩
 exact h.own.lt g h1;exact (h.kid e he).lt g h1
theorem Opn.ev {base:Nat} {w w':World} {v:Value} {os:List M} (h:Opn base w v os) (hE:Ev w w'):Opn base w' v os:=
 ⟨NU h.own hE,fun e he=>NU (h.kid e he) hE,h.nd,fun e he m hm=>(h.lies e he m hm).ev hE⟩
theorem Opn.at {base:Nat} {w:World} {v:Value} {os:List M} (h:Opn base w v os) (h0:os≠[]):∃g cap,v=.slice (some ⟨g,0,none⟩) os.length cap∧os.length≤cap∧cap≤9223372036854775807∧base≤g∧g<w.heap.size∧(∀i,w.frozen? ⟨g,i,none⟩=false)∧
  ∀i x,os[i]?=some x→w.cell? ⟨g,i*5,none⟩=some (.int .i64 x.kind)∧w.cell? ⟨g,i*5+1,none⟩=some (.string ⟨x.s.toArray⟩)∧w.cell? ⟨g,i*5+2,none⟩=some (.int .i64 x.n)∧w.cell? ⟨g,i*5+3,none⟩=some x.kv∧w.cell? ⟨g,i*5+4,none⟩=some (.int .i64 (x.pos:Int)):=by
 rcases h.own.2 with⟨_,hn⟩|⟨g,cap,cur,rfl,hg,hh,yI,hcm,hcs,ht⟩
 exact absurd (aup hn) h0;refine⟨g,cap,rfl,yI,by simpa[maxLen] using hcm,hg,(atC.1 hh).1,fun i=>Lib.frozen_of_heap hh i,fun i x hx=>?_⟩;have hi:=(atr.1 hx).1;have key:∀j u,(mc x)[j]?=some u→w.cell? ⟨g,i*5+j,none⟩=some u:=fun j u hu=>by have hj:j<5:=(atr.1 hu).1;rw[World.ownsRow.cellAt h.own (i*5+j) (by omega)];exact D_ os i x hx j u hu
 exact⟨key 0 _ rfl,key 1 _ rfl,key 2 _ rfl,key 3 _ rfl,key 4 _ rfl⟩
theorem Ms.cell {w:World} {A:Option Addr} {n cap:Nat} {l:List M} (h:Ms w A n cap l) {i:Nat} {x:M} (hx:l[i]?=some x):∃b off,A=some ⟨b,off,none⟩∧b<w.heap.size∧
  w.cell? ⟨b,off+i*5,none⟩=some (.int .i64 x.kind)∧w.cell? ⟨b,off+i*5+1,none⟩=some (.string ⟨x.s.toArray⟩)∧w.cell? ⟨b,off+i*5+2,none⟩=some (.int .i64 x.n)∧w.cell? ⟨b,off+i*5+3,none⟩=some x.kv∧w.cell? ⟨b,off+i*5+4,none⟩=some (.int .i64 (x.pos:Int)):=by
 have hi:=(atr.1 hx).1;have hl:=h.len;obtain⟨b,off,e,hlt,hc⟩:=h.rd (by omega);exact⟨b,off,e,hlt,hc i x hx 0 _ rfl,hc i x hx 1 _ rfl,hc i x hx 2 _ rfl,hc i x hx 3 _ rfl,hc i x hx 4 _ rfl⟩
theorem Ea {w:World} {base:Nat} {A:Option Addr} {n cap:Nat} {l:List M} (h:w.ownsRow base 101 5 (.slice A n cap) n (jX l)):Ms w A n cap l:=by
 have hl:l.length=n:=by have:=h.1;rw[kG]at this;omega
 rcases h.2 with⟨hv,hn⟩|⟨g,c,cur,hv,hg,hh,yI,hcm,hcs,ht⟩
 exact axn;injection hv with h1 h2 h3
 subst h1;subst h3;refine⟨hl,yI,by simpa[maxLen] using hcm,by simp,fun h0=>⟨g,0,rfl,(atC.1 hh).1,fun i x hx j u hu=>?_⟩⟩;have hi:=(atr.1 hx).1;have hj:j<5:=(atr.1 hu).1;have:=World.ownsRow.cellAt h (i*5+j) (by omega);rw[atT,this];exact D_ l i x hx j u hu
theorem Af {base:Nat} {v:Value} {os:List M} (w:World) (h:Opn base w v os) (h0:os≠[]):
  Calls Tryz.prog 144 #[v] w fun e w'=>e=.returned (.bool (sxDone (os.map M.t)))∧w=w':=by
 obtain⟨g,cap,rfl,hle,hmx,_,hg,_,hc⟩:=h.at h0
 cases os with
 | nil=>exact absurd rfl h0
 | cons e os=>
  obtain⟨_,_,_,c3,_⟩:=hc 0 e rfl;have hk:=(Ea (h.kid e (atz ..))).le;have hk2:=(Ea (h.kid e (atz ..))).max;have HF:Hid (sxDone ((e::os).map M.t)=decide (0<e.kids.length)):=zq (by
   simp only[sxDone,atx,M.aY];cases e.kids<;>simp)
  unfold M.kv at c3;generalize e.kids.length=n at*;simp only[aud,atT]at c3;obtain⟨q,hq⟩:∃q,q=(e::os).length:=⟨_,rfl⟩
  have qP:1≤q:=by rw[hq];simp
  rw[←hq]at hle⊢;have hD:decide (0<n)=decide ((0:Int)<(n:Int)):=decide_eq_decide.2 (by omega);have HD:=zq hD;clear hD hq hc h;go_enter Tryz.func144,Tryz.ntmps144;go_wp2;go_ret;exact⟨by rw[HF.out,HD.out];rfl,rfl⟩
theorem Tryz.iG:(Tryz.prog.info? 101).map (·.size)=some 5:=by kernel_rfl
theorem Ah {P:Program} {fn:Func} {p u1 u2:Tmp} {ty:TypeId} (h:fn.results=#[.cell p ty,.tmp u1,.tmp u2]) (tmps:Array Value) (w:World) (g:Nat) (t:TypeId) (cs:Array Value) (fr:Nat×Nat) (d:TypeDesc)
  (hp:tmps.getD p undef=.pointer (some ⟨g,0,none⟩)) (hg:w.heap[g]?=some (.cells cs t fr))
  (hu:P.underlying ty=some d) (hd:(match d with|.struct _|.array _ _=>true|_=>false)=true) (hi:(P.info? ty).map (·.size)=some cs.size):
  (results fn tmps).run P w=.ok (.tuple #[.agg cs,tmps.getD u1 undef,tmps.getD u2 undef]) w:=by
 have hp':tmps[p]?.getD undef=.pointer (some ⟨g,0,none⟩):=by simpa using hp
 simp[results,h,hp',asAddr,run_loadVar_row w g t ty cs fr d hg hu hd hi]
def Qc (k n p:Int) (s:ByteArray) (v:Value):Array Value:=#[.int .i64 k,.string s,.int .i64 n,v,.int .i64 p]
theorem zu {fn:Func} {p u1 u2:Tmp} (h:fn.results=#[.cell p 101,.tmp u1,.tmp u2]) (tmps:Array Value) (w:World) (g:Nat) (k n q:Int) (s:ByteArray) (v:Value)
  (hp:tmps.getD p undef=.pointer (some ⟨g,0,none⟩)) (hg:w.heap[g]?=some (.cells (Qc k n q s v) 101 (0,0))):
  (results fn tmps).run Tryz.prog w=.ok (.tuple #[.agg (Qc k n q s v),tmps.getD u1 undef,tmps.getD u2 undef]) w:=
 Ah h tmps w g 101 _ _ _ hp hg Tryz.underlying101 rfl Tryz.iG
def iK:M:=.mk 0 [] 0 none 0 [] 0
theorem Lies.zero (b0:Nat) (K:List Nat) (w:World):Lies b0 K w iK:=.mk (Sl.nil_ w) (fun _ h=>by cases h) (fun _ h=>by cases h)
theorem YG {base:Nat} {v:Value} {os:List M} (w:World) (h:Opn base w v os) (h0:os≠[]) (pos:Nat):
  Calls Tryz.prog 107 #[v,.int .i64 (pos:Int)] w fun e w'=>∃m:M,e=.returned (.tuple #[mv m,.int .i64 (jT (os.map M.t) pos).2.1,.int .i64 ((jT (os.map M.t) pos).2.2:Int)])∧m.t=(jT (os.map M.t) pos).1∧Lies base (blk v os) w' m∧Ev w w':=by
 have HC:=fun w1 (h1:Opn base w1 v os)=>Af w1 h1 h0;have hL:∀e∈os,∀m∈e.kids,Lies base (blk v os) w m:=h.lies;generalize hK:blk v os=K at*;obtain⟨g,cap,rfl,hle,hmx,_,hg,_,hc⟩:=h.at h0
 cases os with
 | nil=>exact absurd rfl h0
 | cons e os=>
  have dG:=Ea (h.kid e (atz ..));obtain⟨_,_,_,c3,_⟩:=hc 0 e rfl;have hLe:=hL e (atz ..);have aT:Ev w (w.alloc (.cells #[.int .i64 0,.string ⟨#[]⟩,.int .i64 0,.slice none 0 0,.int .i64 0] 101)):=Ev.alloc _ _;have HC:=zq (HC _ (h.ev aT));obtain⟨q,hq⟩:∃q,q=(e::os).length:=⟨_,rfl⟩
  have qP:1≤q:=by rw[hq];simp
  rw[←hq]at hle HC⊢;unfold M.kv at c3;simp only[aud,atT]at c3
  cases NY:e.kids with
  | nil=>
   have e1:sxDone ((e::os).map M.t)=false:=by simp[sxDone,M.aY,NY]
   have e2:jT ((e::os).map M.t) pos=(dM,10,pos):=by simp[jT,M.aY,NY]
   rw[e2];rw[e1]at HC;clear e1 e2 hc hL hLe dG h NY c3 hq;go_enter Tryz.func107,Tryz.ntmps107
   go_wp2_with (first|((with_reducible refine HC.out.mono ?_);rintro x w1 ⟨rfl,rfl⟩))
   refine bodyPost_ret (zu rfl _ _ w.heap.size 0 0 0 ⟨#[]⟩ (.slice none 0 0) rfl (heap_alloc_new w _)) rfl ?_;exact⟨iK,rfl,by simp[iK,M.t,M.ts,dM],Lies.zero _ _ _,aT⟩
  | cons k0 ks=>
   have e1:sxDone ((e::os).map M.t)=true:=by simp[sxDone,M.aY,NY]
   have e2:jT ((e::os).map M.t) pos=(k0.t,0,0):=by simp[jT,M.aY,NY]
   rw[e2];rw[e1]at HC;have hlk:=hLe k0 (by rw[NY];exact atz ..);rw[NY]at dG c3;obtain⟨b,off,hA,hb,d0,d1,d2,d3,d4⟩:=dG.cell (i:=0) (x:=k0) rfl;rw[hA]at c3;have qF:1≤(k0::ks).length:=by simp
   have Ia:=dG.le;have hn3:=dG.max;generalize (k0::ks).length=n at*;simp only[aud,atW]at d0 d1 d2 d3 d4;clear e1 e2 hc hL hLe dG h NY hq;obtain⟨kk,ks',kn,kA,kc,kl,kp⟩:=k0;simp only[M.kind,M.s,M.n,M.kv,M.A,M.kids,M.cap,M.pos]at d0 d1 d2 d3 d4;go_enter Tryz.func107,Tryz.ntmps107
   go_wp2_with (first|((with_reducible refine HC.out.mono ?_);rintro x w1 ⟨rfl,rfl⟩))
   refine bodyPost_ret (zu rfl _ _ w.heap.size kk kn kp ⟨ks'.toArray⟩ (.slice kA kl.length kc) rfl (heap_alloc_new w _)) rfl ?_;exact⟨.mk kk ks' kn kA kc kl kp,rfl,rfl,hlk.ev (Ev.alloc _ _),Ev.alloc _ _⟩
def iY (D:Bool) (q:Nat) (x:Tk):Int×Nat:=
 if !(x.why==0)&&!(D&&decide (0<x.fault)) then (x.why,x.fault)
 else if x.kind==-1&&q==1 then (12,0)
 else if !(x.kind==-1)&&D then (11,0)
 else if x.kind==1&&decide (12<q) then (14,0)
 else (0,0)
theorem Wy (os:List T) (x:Tk):iD os x=iY (sxDone os) os.length x:=rfl
theorem aw2 {P:Prop} (h:P:=by
 clear hJ;go_enter Tryz.func109,Tryz.ntmps109
 go_wp2_with (first|((with_reducible refine HC.out.mono ?_);rintro x w1 ⟨rfl,rfl⟩))
 go_ret2
 rw[HJ.out];exact⟨rfl,aT⟩):P:=h
theorem avK {P:Prop} (h:P:=by
 subst hk;by_cases hq:q=1;subst hq;have HJ:Hid (J=(12,0)):=zq (by rw[hJ];simp[iY]);exact aw2;have q1:¬((q:Int)=1):=by omega
 have q1':((q:Int)==1)=false:=atp.2 q1;have HJ:Hid (J=(0,0)):=zq (by rw[hJ];simp[iY,hq]);exact aw2):P:=h
theorem awR {P:Prop} (h:P:=by
 clear hJ;go_enter Tryz.func109,Tryz.ntmps109
 go_wp2_with (first|((with_reducible refine HC.out.mono ?_);rintro x w1 ⟨rfl,rfl⟩))
 go_quiet (fail)
 go_wp2
 go_ret2
 rw[HJ.out];exact⟨rfl,aT.trans (Ev.drewN _ _)⟩):P:=h
theorem YH {base:Nat} {v:Value} {os:List M} (w:World) (h:Opn base w v os) (h0:os≠[]) (x:Tk):
  Calls Tryz.prog 109 #[v,Yd x] w fun e w'=>e=.returned (.tuple #[.int .i64 (iD (os.map M.t) x).1,.int .i64 ((iD (os.map M.t) x).2:Int)])∧Ev w w':=by
 have aT:Ev w (w.alloc (.cells (Vu x) 157)):=Ev.alloc _ _;have HC:=Af _ (h.ev aT) h0;obtain⟨g,cap,rfl,hle,hmx,_,hg,_,hc⟩:=h.at h0;rw[Wy,atq];have qP:1≤os.length:=by
  cases os with
  | nil=>exact absurd rfl h0
  | cons e os=>simp
 generalize os.length=q at*;generalize sxDone (os.map M.t)=D at*;obtain⟨J,hJ⟩:∃J,J=iY D q x:=⟨_,rfl⟩
 rw[←hJ];obtain⟨k,xs,n,z,y,f⟩:=x;unfold Yd Vu at*;simp only at HC aT;have HC:=zq HC;clear hc h;by_cases hy:y=0;subst hy
 cases D
 by_cases hk:k=-1;exact avK;have hk':(k==-1)=false:=atp.2 hk;have af6:(k !=-1)=true:=auJ.2 hk;by_cases k1:k=1;subst k1;by_cases q12:12<q;have q2:(12:Int)<(q:Int):=by omega
 have HJ:Hid (J=(14,0)):=zq (by rw[hJ];simp[iY,q12]);exact aw2;have q2:¬((12:Int)<(q:Int)):=by omega
 have HJ:Hid (J=(0,0)):=zq (by rw[hJ];simp[iY,q12]);exact aw2;have k1':(k==1)=false:=atp.2 k1;have HJ:Hid (J=(0,0)):=zq (by rw[hJ];simp[iY,hk,k1]);exact aw2;by_cases hk:k=-1;exact avK;have hk':(k==-1)=false:=atp.2 hk;have af6:(k !=-1)=true:=auJ.2 hk;have HJ:Hid (J=(11,0)):=zq (by rw[hJ];simp[iY,hk]);exact aw2;have hy':(y==0)=false:=atp.2 hy;have aoM:(y !=0)=true:=auJ.2 hy
 cases D
 have HJ:Hid (J=(y,f)):=zq (by rw[hJ];simp[iY,hy]);exact awR;by_cases hf:0<f;have hf1:decide (0<f)=true:=atX hf;by_cases hk:k=-1;subst hk;by_cases hq:q=1;subst hq;have HJ:Hid (J=(12,0)):=zq (by rw[hJ];simp[iY,hf]);exact aw2;have q1:¬((q:Int)=1):=by omega
 have q1':((q:Int)==1)=false:=atp.2 q1;have HJ:Hid (J=(0,0)):=zq (by rw[hJ];simp[iY,hf,hq]);exact aw2;have hk':(k==-1)=false:=atp.2 hk;have af6:(k !=-1)=true:=auJ.2 hk;have HJ:Hid (J=(11,0)):=zq (by rw[hJ];simp[iY,hf,hk]);exact aw2;have hf1:decide (0<f)=false:=auj hf;have HJ:Hid (J=(y,f)):=zq (by rw[hJ];simp[iY,hy,hf]);exact awR
def cl {α:Type} (enc:α→List Value) (l:List α):List Value:=l.flatMap enc
structure Enc {α:Type} (k:Nat) (enc:α→List Value):Prop where
 pos:0<k
 len:∀x,(enc x).length=k
 one:∀x,∀u∈enc x,u.oneCell'=true
section
variable {α:Type} {k:Nat} {enc:α→List Value}
theorem WO (l m:List α):cl enc (l++m)=cl enc l++cl enc m:=by simp[cl]
theorem qH (x:α) (l:List α):cl enc (x::l)=enc x++cl enc l:=rfl
theorem pK (E:Enc k enc) (l:List α):(cl enc l).length=l.length*k:=by
 induction l with
 | nil=>simp[cl]
 | cons x l ih=>rw[qH,atv,E.len,ih,atF,auU,auE,Nat.add_comm]
theorem YS (E:Enc k enc):∀(l:List α) (i:Nat) (x:α),l[i]?=some x→∀j u,(enc x)[j]?=some u→(cl enc l)[i*k+j]?=some u
 | [],_,_,h,_,_,_=>by simp at h
 | y::l,0,x,h,j,u,hu=>by simp at h;subst h;have hj:=(atr.1 hu).1;rw[qH,aud,atT,au9 hj];exact hu
 | y::l,i+1,x,h,j,u,hu=>by rw[qH,au7 (by rw[E.len,auU];omega),E.len,show (i+1)*k+j - k=i*k+j by rw[auU];omega];exact YS E l i x (by simpa using h) j u hu
theorem N9 (E:Enc k enc):∀(l:List α) (q:Nat) (u:Value),(cl enc l)[q]?=some u→∃i j x,q=i*k+j∧l[i]?=some x∧(enc x)[j]?=some u
 | [],q,u,h=>by simp[cl]at h
 | y::l,q,u,h=>by rw[qH]at h;by_cases hq:q<k;rw[au9 (by rw[E.len];exact hq)]at h;exact⟨0,q,y,by omega,rfl,h⟩;rw[au7 (by rw[E.len];omega),E.len]at h;obtain⟨i,j,x,h1,h2,h3⟩:=N9 E l (q - k) u h;exact⟨i+1,j,x,by rw[auU];omega,by simpa using h2,h3⟩
theorem ad6 (E:Enc k enc) (l:List α):∀u∈cl enc l,u.oneCell'=true:=by intro u hu;obtain⟨x,_,hx⟩:=auP.1 hu;exact E.one x u hx
theorem YT (E:Enc k enc):∀(l:List α) (i j:Nat) (x x':α) (u:Value),l[i]?=some x→j<k→enc x'=(enc x).set j u→(cl enc l).set (i*k+j) u=cl enc (l.set i x')
 | [],i,j,x,x',u,h,_,_=>by simp at h
 | y::l,0,j,x,x',u,h,hj,he=>by simp at h;subst h;rw[List.set_cons_zero,qH,qH,he,aud,atT,List.set_append_left _ _ (by rw[E.len];exact hj)]
 | y::l,i+1,j,x,x',u,h,hj,he=>by rw[List.set_cons_succ,qH,qH,List.set_append_right _ _ (by rw[E.len,auU];omega),E.len,show (i+1)*k+j - k=i*k+j by rw[auU];omega];rw[YT E l i j x x' u (by simpa using h) hj he]
theorem VA (E:Enc k enc):∀(l:List α) (m:Nat),(cl enc l).take (m*k)=cl enc (l.take m)
 | [],m=>by simp[cl]
 | y::l,0=>by simp[cl]
 | y::l,m+1=>by rw[auz,qH,qH,List.take_append,E.len,atJ (by rw[E.len,auU];omega),show (m+1)*k - k=m*k by rw[auU];omega,VA E l m]
theorem Fj {w:World} {b:Nat} {cs:Array Value} {T:TypeId} (i:Nat) (x:Value) (h:w.heap[b]?=some (.cells cs T (0,0))):(w.setCell ⟨b,i,none⟩ x).heap[b]?=some (.cells (cs.setIfInBounds i x) T (0,0)):=by simp only[World.setCell,Array.getElem?_modify,if_pos];rw[h];rfl
def Ow (et:TypeId) (k:Nat) (enc:α→List Value) (base:Nat) (w:World) (v:Value) (Z:List α):Prop:=w.ownsRow base et k v Z.length (cl enc Z)
variable {et:TypeId} {base:Nat} {w w':World} {v:Value} {Z:List α}
theorem Ow.nil_ (w:World):Ow et k enc base w (.slice none 0 0) ([]:List α):=World.ownsRow_nil _ _ _ _
theorem Ow.but {K:List Nat} (h:Ow et k enc base w v Z) (hb:But K w w') (hn:∀g,v.ownBlock=some g→g∉K):Ow et k enc base w' v Z:=by exact axe
theorem Ow.ev (h:Ow et k enc base w v Z) (hE:Ev w w'):Ow et k enc base w' v Z:=NU h hE
theorem Ow.lt (h:Ow et k enc base w v Z) {g:Nat} (hg:v.ownBlock=some g):base≤g∧g<w.heap.size:=World.ownsRow.lt h g hg
theorem Ow.form (E:Enc k enc) (h:Ow et k enc base w v Z):∃A cap,v=.slice A Z.length cap∧Sl k enc w A Z.length cap Z∧∀ad,A=some ad→v.ownBlock=some ad.block∧base≤ad.block∧ad.block<w.heap.size∧ad=⟨ad.block,0,none⟩∧∀i,w.frozen? ⟨ad.block,i,none⟩=false:=by
 have hlt:=fun g hg=>World.ownsRow.lt h g hg;rcases h.2 with⟨rfl,hn⟩|⟨g,cap,cur,rfl,hb,hg,yI,hcm,hcs,ht⟩
 have hl:Z=[]:=aup hn;subst hl;exact⟨none,0,rfl,Sl.nil_ w,by simp⟩;refine⟨_,_,rfl,⟨rfl,yI,by simpa[maxLen] using hcm,by simp,fun h0=>⟨g,0,rfl,(atC.1 hg).1,fun i x hx j u hu=>?_⟩⟩,?_⟩;have hi:=(atr.1 hx).1;have hj:=(atr.1 hu).1;rw[E.len]at hj;have:=World.ownsRow.cellAt h (i*k+j) (by have:(i+1)*k≤Z.length*k:=Nat.mul_le_mul_right _ hi;rw[auU]at this;omega);rw[atT,this];exact YS E Z i x hx j u hu;rintro ad ⟨⟩;exact⟨rfl,(hlt g rfl).1,(hlt g rfl).2,rfl,fun i=>Lib.frozen_of_heap hg i⟩
theorem Ow.made (E:Enc k enc) (w:World) (l:List α) (cs:Array Value) (h:cs.toList=cl enc l) (hb:base≤w.heap.size) (hl:l.length≤1000000):Ow et k enc base (w.alloc (.cells cs et)) (.slice (some ⟨w.heap.size,0,none⟩) l.length l.length) l:=by
 have hs:cs.size=l.length*k:=by rw[←atU,h,pK E]
 refine⟨pK E l,.inr ⟨w.heap.size,l.length,cs,rfl,hb,heap_alloc_new w _,att _,by unfold maxLen;omega,hs,?_⟩⟩;rw[h,atJ (by rw[pK E];exact att _)]
theorem Ow.to (E:Enc k enc) (h:Ow et k enc base w v Z) {A:Option Addr} {n cap:Nat} (hv:v=.slice A n cap) (m:Nat) (hm:m≤Z.length):Ow et k enc base w (.slice A m cap) (Z.take m):=by
 have hl:(Z.take m).length=m:=by rw[aua];omega
 rcases h.2 with⟨h1,hn⟩|⟨g,cap',cur,h1,hb,hg,yI,hcm,hcs,ht⟩
 rw[hv]at h1;injection h1 with h1 h2 h3
 subst h1;subst h3;have:m=0:=by omega
 subst this;exact World.ownsRow_nil _ _ _ _;rw[hv]at h1;injection h1 with h1 h2 h3
 subst h1;subst h3;refine⟨pK E _,.inr ⟨g,cap,cur,by rw[hl],hb,hg,by rw[hl];omega,hcm,hcs,?_⟩⟩;rw[hl,←VA E,←ht,List.take_take];congr 1;exact (Nat.min_eq_left (Nat.mul_le_mul_right _ hm)).symm
theorem Ow.set (E:Enc k enc) {g n cap:Nat} (h:Ow et k enc base w (.slice (some ⟨g,0,none⟩) n cap) Z) {i j:Nat} {x x':α} {u:Value} (hx:Z[i]?=some x) (hj:j<k) (he:enc x'=(enc x).set j u):
  Ow et k enc base (w.setCell ⟨g,i*k+j,none⟩ u) (.slice (some ⟨g,0,none⟩) n cap) (Z.set i x'):=by
 rcases h.2 with⟨h1,hn⟩|⟨g',cap',cur,h1,hb,hg,yI,hcm,hcs,ht⟩
 cases h1
 injection h1 with h1 h2 h3
 injection h1 with h1
 injection h1 with h1 _ _
 subst h1;subst h3;refine⟨pK E _,.inr ⟨g,cap,_,by rw[List.length_set,h2],hb,Fj _ _ hg,by rw[List.length_set];exact yI,hcm,by simpa using hcs,?_⟩⟩;rw[List.length_set,←YT E Z i j x x' u hx hj he,←ht,Array.toList_setIfInBounds,List.take_set]
theorem axK {P:Prop} (h:P:=by obtain rfl:=aui e;have:=hc i' x hx j' u hxu;rw[Addr.add_lit];rwa [show off+i'*k+j'=off+(i'*k+j') by omega]at this):P:=h
theorem kY {P:Program} (E:Enc k enc) (T ty:TypeId) (ht:P.underlying T=some (.slice et)) {zero:Value} {bytes:Nat} (hi:(P.info? et).map (fun i=>(i.zero,i.size,i.bytes))=some (some zero,k,bytes)) (hz:zero.cells.size=k)
  (hown:Ow et k enc base w v Z) (A:Option Addr) (m c:Nat) (l:List α) (hB:Sl k enc w A m c l) (hbytes:(Z.length+l.length)*bytes≤140737488355328) (hsm:Z.length+l.length≤1000000000) (hbase:base≤w.heap.size):
  ∃v' w',(Builtin.append_ #[T,T] ty #[v,.slice A m c]).run P w=.ok v' w'∧Ow et k enc base w' v' (Z++l)∧But (foot v) w w'∧eX w v v'∧(v'.ownBlock=v.ownBlock∨v'.ownBlock=some w.heap.size):=by
 obtain⟨i,Cf,hz',hsz,hby⟩:=info_parts hi;have hl:=hB.len
 cases A with
 | none=>
  obtain⟨h0,h1⟩:=hB.nil rfl;subst h0;subst h1;have hnil:l=[]:=aup hl;subst hnil;exact⟨v,w,run_append_owned_none (P:=P) (w:=w) base T ty et i k ht Cf v _ _ hown,by simpa using hown,But.refl _ _,eX.refl _ _,.inl rfl⟩
 | some ad=>
  have hcells:∀j u,(cl enc l)[j]?=some u→w.cell? (ad.add j)=some u:=by intro q u hu;obtain⟨i',j',x,rfl,hx,hxu⟩:=N9 E l q u hu;have hq:=(atr.1 hx).1;obtain⟨b,off,e,_,hc⟩:=hB.rd (by omega);exact axK
  obtain⟨v',w',hr',h1,h2,_,h4⟩:=run_append_own_at (P:=P) w base T ty et i zero k bytes ht Cf hz' hsz hby hz E.pos v Z.length (cl enc Z) hown ad m c (cl enc l) (by rw[pK E,hl]) hcells (ad6 E l) (by unfold maxLen;omega) (by rw[←hl];exact hbytes) hbase;have WQ:But (foot v) w w':=But.grown h2 (fun g hg=>aB.2 hg);have ajF:eX w v v':=fun g hg=>by rcases h4 with h4|h4;exact .inl (h4▸hg);rw[h4]at hg;simp at hg;exact .inr (by omega)
  exact⟨v',w',hr',by unfold Ow;rw[WO,atv,hl];exact h1,WQ,ajF,h4⟩
def mW (et:TypeId) (k:Nat) (enc:α→List Value) (base:Nat) (w:World) (v:Value) (Z':List α) (v':Value) (w':World):Prop:=
 Ow et k enc base w' v' Z'∧But (foot v) w w'∧eX w v v'
theorem aK {P:Program} {ops:Array Oper} {rest:List Oper} {o:Oper} {a:Act} {Q:Exit→Act→World→Prop} (hgd:o.guard=none) (T:TypeId) (s x:Operand)
  (ho:o.op=.call {callee:=.builtin .append,args:=#[s,x],argTypes:=#[T,T]}) (E:Enc k enc)
  (ht:P.underlying T=some (.slice et)) {zero:Value} {bytes:Nat} (hi:(P.info? et).map (fun i=>(i.zero,i.size,i.bytes))=some (some zero,k,bytes)) (hz:zero.cells.size=k)
  (hs:a.eval s=v) (hown:Ow et k enc base w v Z) (A:Option Addr) (m c:Nat) (l:List α) (hx:a.eval x=.slice A m c) (hB:Sl k enc w A m c l)
  (hbytes:(Z.length+l.length)*bytes≤140737488355328) (hsm:Z.length+l.length≤1000000000) (hbase:base≤w.heap.size)
  (h:∀v' w',mW et k enc base w v (Z++l) v' w'→wpList P ops Q rest (a.put o.dst v') w'):wpList P ops Q (o::rest) a w:=by
 refine wpList_plain hgd fun K hK=>?_;obtain⟨v',w',hr,h2,h3,h4,_⟩:=kY (P:=P) E T o.type ht hi hz hown A m c l hB hbytes hsm hbase;unfold Oper.wp execOp;simp only[ho,resolve,invoke,builtin,Sem.run_bind,Sem.run_pure,Result.andThen_ok,auH,atx,atQ,hs,hx,hr];exact hK _ _ (h v' w' ⟨h2,h3,h4⟩)
theorem Sl.one (E:Enc k enc) (w:World) (x:α) (cs:Array Value) (h:cs.toList=enc x):Sl k enc (w.alloc (.cells cs et)) (some ⟨w.heap.size,0,none⟩) 1 1 [x]:=
 ⟨rfl,att _,by omega,by simp,fun _=>⟨w.heap.size,0,rfl,by simp,fun i y hy j u hu=>by
  have hi:i=0:=by have:=(atr.1 hy).1;simp at this;omega
  subst hi;simp at hy;subst hy;rw[Lib.cell_of_heap (heap_alloc_new w _),aud,atT];rw[←h]at hu;simpa using hu⟩⟩
end
end Go.Proofs.YtpbfokkocaemlaaGreatDoor
