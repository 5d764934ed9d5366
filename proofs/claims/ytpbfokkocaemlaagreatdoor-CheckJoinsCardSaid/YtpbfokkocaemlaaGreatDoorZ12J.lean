import Derived.Deep.Cut
import Derived.Test.YtpbfokkocaemlaaGreatDoorZ10J
set_option linter.unusedVariables false
set_option maxRecDepth 100000
set_option maxHeartbeats 64000000
namespace Go.Proofs.YtpbfokkocaemlaaGreatDoor
open Go.RowKit
open Go.Lib renaming hid → zq
open Go renaming World → ak
open Go renaming Value → au
open Go.Proofs.Tryz renaming prog → ax
variable {U:Prop}
open Go.Proofs.Tryz
theorem BB{P:Program}{c R:Code}{Q:Exit->Act->ak->Prop}{a:Act}{w:ak}(l n:Nat)(JJ:(Nat->au)->ak->Prop)(μ:(Nat->au)->ak->Nat)(hf:findLabel c l=some (.seq .skip R))
  (pass:∀s w,JJ s w->R.wp P (Exit.jump l (λa' w'=>(a'.defers=[]/\a'.tmps.size=n/\JJ (λd=>a'.eval (.tmp d)) w')/\μ (λd=>a'.eval (.tmp d)) w'<μ s w) Q) ⟨((List.range n).map s).toArray,[]⟩ w)
  (first:(∀(a:Act) w,a.defers=[]->a.tmps.size=n->JJ (λd=>a.eval (.tmp d)) w->R.wp P (Exit.jump l (λa' w'=>a'.defers=[]/\a'.tmps.size=n/\JJ (λd=>a'.eval (.tmp d)) w') Q) a w)->
   c.wp P (Exit.jump l (λa' w'=>a'.defers=[]/\a'.tmps.size=n/\JJ (λd=>a'.eval (.tmp d)) w') Q) a w):(Code.scope c).wp P Q a w:=by
 have aeC:∀(a:Act) w,(a.defers=[]/\a.tmps.size=n/\JJ (λd=>a.eval (.tmp d)) w)->R.wp P (Exit.jump l (λa' w'=>(a'.defers=[]/\a'.tmps.size=n/\JJ (λd=>a'.eval (.tmp d)) w')/\(λ(a:Act) w=>μ (λd=>a.eval (.tmp d)) w) a' w'<(λ(a:Act) w=>μ (λd=>a.eval (.tmp d)) w) a w) Q) a w:=by
  rintro a w ⟨h1,h2,h3⟩;have:=pass (λd=>a.eval (.tmp d)) w h3;have e:a=⟨((List.range n).map λd=>a.eval (.tmp d)).toArray,[]⟩:=by rw[<-h1];exact xN h2
  rw[<-e]at this;exact this
 refine wp_scope_jumps l _ (λa w=>μ (λd=>a.eval (.tmp d)) w) hf (first λa w h1 h2 h3=>Code.wp_mono ?_ (aeC a w ⟨h1,h2,h3⟩)) (λa w h=>wp_seq (wp_skip (aeC a w h)));intro e a' w' h;cases e with
 | goto l'=>exact⟨h.1,h.2.1⟩
 | _=>exact h
theorem Va(B:By)(c:UInt8)(q:By)(i:Nat)(hp:bY c=false)(hc:c.toNat=92):sxTextGo B (c::q) i=
  if (sxEscaped q).2=0 then sxTextGo (B++[(sxEscaped q).1]) (q.drop 2) (i+3) else if (sxEscaped q).2=10 then aX 10 (i+1+q.length) else aX 12 i:=by
 conv=>lhs;unfold sxTextGo
 rw[hp];simp only[awv,if_false,hc]
 cases q with
 | nil=>simp[sxEscaped]
 | cons x q1=>
  cases hx:iq x with
  | none=>simp[sxEscaped,hx]
  | some a=>
   cases q1 with
   | nil=>simp[sxEscaped,hx]
   | cons y q2=>
    cases hy:iq y with
    | none=>simp[sxEscaped,hx,hy]
    | some b=>simp[sxEscaped,hx,hy]
theorem Yd(q:By):(sxEscaped q).2=0∨(sxEscaped q).2=10∨(sxEscaped q).2=12:=by
 cases q with
 | nil=>simp[sxEscaped]
 | cons x q1=>
  cases hx:iq x with
  | none=>simp[sxEscaped,hx]
  | some a=>
   cases q1 with
   | nil=>simp[sxEscaped,hx]
   | cons y q2=>
    cases hy:iq y with
    | none=>simp[sxEscaped,hx,hy]
    | some b=>simp[sxEscaped,hx,hy]
theorem Ye(q:By):(sxEscaped q).2=0->2<=q.length:=by
 cases q with
 | nil=>simp[sxEscaped]
 | cons x q1=>
  cases q1 with
  | nil=>cases hx:iq x<;>simp[sxEscaped,hx]
  | cons y q2=>intro _;simp
structure Vb(g:Nat)(w0:ak)(A:Option Addr)(n cap:Nat)(b:By)(w:ak):Prop where
 row:Row w (.slice A n cap) b
 len:b.length=n
 high:∀k,(Value.slice A n cap).ownBlock=some k->g<k
 box:kR g (aX 0 0) w
 ev:Ev w0 w
 base:w0.heap.size<=g
theorem Vb.step{g:Nat}{w0 w w1:ak}{A:Option Addr}{n cap:Nat}{b B1:By}{v1:au}(h:Vb g w0 A n cap b w)(hr:Row w1 v1 B1)(hb:But (foot (.slice A n cap)) w w1)(hs:fF w (.slice A n cap) v1):
  ∃A1 n1 cap1,v1=.slice A1 n1 cap1/\Vb g w0 A1 n1 cap1 B1 w1:=by
 obtain⟨A1,cap1,rfl,_,_,_⟩:=hr.bs;have hl:=h.box.lt;refine⟨A1,_,cap1,rfl,hr,rfl,λk hk=>?_,h.box.but hb (λhm=>Nat.lt_irrefl _ (h.high _ (aG.1 hm))),?_,h.base⟩;rcases hs k hk with h1|h1;exact h.high k h1;omega;exact((But.aV (K:=foot (.slice A n cap)) h.ev).then hb).ev λk hk=>by have:=h.high k (aG.1 hk);have:=h.base;omega
theorem Vb.evs{g:Nat}{w0 w w1:ak}{A:Option Addr}{n cap:Nat}{b:By}(h:Vb g w0 A n cap b w)(hE:Ev w w1):Vb g w0 A n cap b w1:=
 ⟨h.row.ev hE,h.len,h.high,h.box.ev hE,h.ev.trans hE,h.base⟩
theorem nI(why:Int)(fault:Nat)(w:ak):
  Calls ax 150 #[↑why,↑fault] w λe w'=>e=.returned (.agg #[.int .i64 0,.string ⟨#[]⟩,.int .i64 0,↑(),.int .i64 0,.int .i64 0,↑why,↑fault])/\Ev w w':=Ru why fault w
theorem yD(w:ak)(x:UInt8):Bs (w.alloc (.cells #[.int .u8 (x.toNat:Int)] 5)) ↑w.heap.size 1 1 [x]:=Bs.made [x] _ rfl aj
theorem DN(l:By)(j:Nat)(c:UInt8)(h:l[j]?=some c):l.drop j=c::l.drop (j+1):=by obtain⟨hj,e⟩:=awi.1 h;rw[axc hj,e]
theorem az_(h:U:=by rw[fG];refine bodyPost_ret (jH _ B4 _ _ _ _ _ _ rfl rfl) rfl ?_;exact⟨by rw[tY.out];rfl,E4.nX (gJ _ _ _ _ _ _ _ _) (awj _)⟩):U:=h
theorem azT(h:U:=by simp only[Exit.jump];exact az_):U:=h
theorem ayF(h:U:=by
 go_wp2_with (first|((with_reducible refine(HW.out _).mono ?_);rintro e w4 ⟨rfl,iw⟩;have B4:=(ST1.evs iw).box;have E4:=(ST1.evs iw).ev;obtain⟨c0,c1,c2,c3,c4,c5,c6,c7⟩:=B4.cs;obtain⟨f0,f1,f2,f3,f4,f5,f6,f7⟩:=B4.fs))
 exact azT):U:=h
theorem ayv(h:U:=by
 go_wp2_with (first
  | ((with_reducible refine(HE.out _).mono ?_);rintro e w4 ⟨rfl,rfl⟩)
  | ((with_reducible refine(HW.out _).mono ?_);rintro e w4 ⟨rfl,iw⟩;have B4:=(ST1.evs iw).box;have E4:=(ST1.evs iw).ev;obtain⟨c0,c1,c2,c3,c4,c5,c6,c7⟩:=B4.cs;obtain⟨f0,f1,f2,f3,f4,f5,f6,f7⟩:=B4.fs))
 exact azT):U:=h
theorem acZ(s0:ByteArray)(w:ak)(h1s:1<=s0.size)(hs:s0.size<=100000):
  Calls ax 145 #[.string s0] w λe w'=>e=.returned (ZH (sxTextGo [] (s0.data.toList.drop 1) 1))/\Ev w w':=by
 have jG:s0.data.toList.length=s0.size:=by rw[awK];rfl
 obtain⟨Y,hY⟩:∃Y,Y=sxTextGo [] (s0.data.toList.drop 1) 1:=⟨_,rfl⟩
 rw[<-hY];have HY:=zq hY;have HL:=zq jG;clear hY jG;go_enter func145,ntmps145;go_wp2;refine BB 0 78 (λs w2=>s 0=.string s0/\s 2=.pointer ↑w.heap.size/\∃(b:By) (i n cap:Nat) (A:Option Addr),s 3=.slice A n cap/\s 4=↑i/\1<=i/\i<=s0.size/\n<=i/\Vb w.heap.size w A n cap b w2/\Hid (Y=sxTextGo b (s0.data.toList.drop i) i)) (λs _=>s0.size - (intOf (s 4)).toNat) rfl ?_ ?_
 ·rintro s w2 ⟨h0,h2,b,i,n,cap,A,h3,h4,hi1,hi,hni,ST,HT⟩;change Code.wp _ _ _ ⟨#[s 0,s 1,s 2,s 3,s 4,s 5,s 6,s 7,s 8,s 9,s 10,s 11,s 12,s 13,s 14,s 15,s 16,s 17,s 18,s 19,s 20,s 21,s 22,s 23,s 24,s 25,s 26,s 27,s 28,s 29,s 30,s 31,s 32,s 33,s 34,s 35,s 36,s 37,s 38,s 39,s 40,s 41,s 42,s 43,s 44,s 45,s 46,s 47,s 48,s 49,s 50,s 51,s 52,s 53,s 54,s 55,s 56,s 57,s 58,s 59,s 60,s 61,s 62,s 63,s 64,s 65,s 66,s 67,s 68,s 69,s 70,s 71,s 72,s 73,s 74,s 75,s 76,s 77],[]⟩ _;simp only[h0,h2,h3,h4];clear h0 h2;obtain⟨r,hr⟩:∃r:ByteArray,r=s0.extract i s0.size:=⟨_,rfl⟩
  have hx:s0.extract i s0.size=r:=hr.symm;have hrl:r.data.toList=s0.data.toList.drop i:=by rw[hr,Lib.extract_eq,awC (by rw[awQ,HL.out];exact awj _)]
  have hrz:r.size=s0.size - i:=by
   have:r.data.toList.length=r.size:=by rw[awK];rfl
   rw[<-this,hrl,awQ,HL.out]
  have HR:=zq (λw1=>Jo r w1 ae);rw[hrl]at HR;have afA:=jQ bY (s0.data.toList.drop i);have hstop:=λc h=>Jk bY (s0.data.toList.drop i) c h;have hgo:=DL (s0.data.toList.drop i) b i;rw[<-HT.out,List.drop_drop]at hgo;rw[awQ,HL.out]at afA;generalize hp:sxRun bY (s0.data.toList.drop i)=p at*;have hml:(s0.extract i (i+p)).data.toList=(s0.data.toList.drop i).take p:=by rw[Lib.extract_eq,show i+p - i=p by omega]
  have hmz:(s0.extract i (i+p)).size=p:=by
   have:(s0.extract i (i+p)).data.toList.length=(s0.extract i (i+p)).size:=by rw[awK];rfl
   rw[<-this,hml,awT,awQ,HL.out];omega
  have aac:∀c,s0.data.toList[i+p]?=some c->bY c=false:=λc h=>hstop c (by rw[List.getElem?_drop];exact h);have HS:=zq aac;have HG:=zq hgo;have HM:=zq hml;have HB:=zq ST.len;have HZ:=zq hmz;clear hstop aac hgo hr hrl hp hml hmz HT;go_upto_region 6 with (first
   | ((with_reducible refine(HR.out _).mono ?_);rintro e w3 ⟨rfl,rfl⟩)
   | ((show wpList _ _ _ (⟨some 19,_,_,_,_,_⟩::_) _ _);refine wJ (o:=⟨some 19,_,_,_,_,_⟩) rfl (.tmp 12) (.tmp 18) rfl underlying93 underlying9 Tryz.Fe (.slice A n cap) b rfl ST.row (s0.extract i (i+p)) rfl (by rw[HB.out,HZ.out];omega) ?_;intro v1 w3 hr1 hb1 hs1;obtain⟨A1,n1,cap1,rfl,ST1⟩:=ST.step hr1 hb1 hs1))
  rw[HM.out]at ST1;have rH:n1<=i+p:=by rw[<-ST1.len,awl,awT,HB.out];omega
  have hj:i+p<=s0.size:=ae;have e1:(i:Int)+(p:Int)=((i+p:Nat):Int):=ae;simp only[e1];generalize b++(s0.data.toList.drop i).take p=B1 at*;have Ci:i<=i+p:=ae;generalize i+p=j at*;clear hr1 hs1 hb1 HM HZ HR ST e1;by_cases hjz:j=s0.size;have tY:Hid (Y=aX 10 s0.size):=zq (by
   rw[HG.out,aw2 (by rw[HL.out];omega),hjz];rfl)
  have e2:(j:Int)=(s0.size:Int):=ae;have HW:=zq (λw1=>nI 10 s0.size w1);clear HG hjz;exact ayF;have hlt:j<s0.size:=ae;have hat:=rU s0 j hlt;obtain⟨c,hc⟩:∃c,s0[j]=c:=⟨_,rfl⟩
  have hidx:∀hh,s0[j]'hh=c:=λ_=>hc;rw[hc]at hat;have hpl:=HS.out c hat;have hdr:=DN _ _ _ hat;clear hc;have e2:¬((j:Int)=(s0.size:Int)):=ae;have e2':((j:Int)==(s0.size:Int))=false:=awg.2 e2;have hjm:j<=100000:=ae;by_cases UC:c.toNat=92
  ·have hsp:=Va B1 c (s0.data.toList.drop (j+1)) j hpl UC;rw[<-hdr,<-HG.out]at hsp;have e3:(c.toNat:Int)=92:=ae;obtain⟨y,hy⟩:∃y:ByteArray,y=s0.extract (j+1) s0.size:=⟨_,rfl⟩
   have hxy:s0.extract (j+1) s0.size=y:=hy.symm;have zh:y.data.toList=s0.data.toList.drop (j+1):=by rw[hy,Lib.extract_eq,awC (by rw[awQ,HL.out];exact awj _)]
   have hyz:y.size=s0.size - (j+1):=by
    have:y.data.toList.length=y.size:=by rw[awK];rfl
    rw[<-this,zh,awQ,HL.out]
   have HE:=λw1=>U9 y w1 ae;rw[zh]at HE;rw[awQ,HL.out,List.drop_drop]at hsp;have ahZ:=Yd (s0.data.toList.drop (j+1));have hlen:=Ye (s0.data.toList.drop (j+1));rw[awQ,HL.out]at hlen;generalize sxEscaped (s0.data.toList.drop (j+1))=R at*;obtain⟨x,why⟩:=R;simp only at HE hsp ahZ hlen;have HE:=zq HE;have tY:=zq hsp;clear hsp hy zh hat hdr hpl HG;rcases ahZ with rfl|rfl|rfl
   ·have hj3:j+3<=s0.size:=by have:=hlen rfl;omega
    have uG:=zq (yD w3 x);have xH:=zq ST1.len;have Yf:Hid (Y=sxTextGo (B1++[x]) (s0.data.toList.drop (j+3)) (j+3)):=zq (by rw[tY.out];rfl);clear tY hlen
    go_wp2_with (first
     | ((with_reducible refine(HE.out _).mono ?_);rintro e w4 ⟨rfl,rfl⟩)
     | ((show wpList _ _ _ (⟨some 57,_,_,_,_,_⟩::_) _ _);refine o_ (o:=⟨some 57,_,_,_,_,_⟩) rfl (.tmp 54) (.tmp 56) rfl underlying93 Tryz.Fe (.slice A1 n1 cap1) B1 rfl (ST1.row.ev az) ↑w3.heap.size 1 1 [x] rfl uG.out (by rw[xH.out];simp;omega) ?_;intro v2 w5 hr2 hb2 hs2;obtain⟨A2,n2,cap2,rfl,ST2⟩:=(ST1.evs az).step hr2 hb2 hs2))
    go_step3
    exact⟨rfl,⟨rfl,rfl,rfl,rfl,B1++[x],j+3,n2,cap2,A2,rfl,rfl,ae,hj3,by rw[<-ST2.len,awl,xH.out];simp;omega,ST2,Yf⟩,by simp[Act.eval,intOf];omega⟩
   have Yf:Hid (Y=aX 10 s0.size):=zq (by rw[tY.out];simp;rw[show j+1+(s0.size - (j+1))=s0.size by omega]);clear tY hlen;have tY:=Yf;clear Yf;have HW:=zq (λw1=>nI 10 s0.size w1);exact ayv;have Yf:Hid (Y=aX 12 j):=zq (by rw[tY.out];simp);clear tY hlen;have tY:=Yf;clear Yf;have HW:=zq (λw1=>nI 12 j w1);exact ayv
  have alO:(c.toNat==92)=false:=awg.2 UC;have e3:¬((c.toNat:Int)=92):=ae;have e3':((c.toNat:Int)==92)=false:=awg.2 e3;by_cases Jr:c.toNat=34
  ·have tY:Hid (Y=if 40<B1.length then aX 3 0 else ⟨4,B1,0,j+1,0,0⟩):=zq (by
    rw[HG.out,hdr];unfold sxTextGo;rw[hpl];simp[Jr])
   have e4:(c.toNat:Int)=34:=ae;have hln:=ST1.len;rw[hln]at tY;clear hdr hat HG hpl;by_cases Ii:40<n1;have Yf:Hid (Y=aX 3 0):=zq (by rw[tY.out,if_pos Ii]);clear tY;have tY:=Yf;clear Yf;have HW:=λw1=>nI 3 0 w1;rw[show (((0:Nat):Int))=0 from rfl]at HW;have HW:=zq HW;have e5:(40:Int)<(n1:Int):=ae;exact ayF;have Yf:Hid (Y=⟨4,B1,0,j+1,0,0⟩):=zq (by rw[tY.out,if_neg Ii]);clear tY;have tY:=Yf;clear Yf;have e5:¬((40:Int)<(n1:Int)):=ae;have B4:=ST1.box;have E4:=ST1.ev;obtain⟨c0,c1,c2,c3,c4,c5,c6,c7⟩:=B4.cs;obtain⟨f0,f1,f2,f3,f4,f5,f6,f7⟩:=B4.fs;obtain⟨Yg,xO,hv,hbs,_,_⟩:=ST1.row.bs;rw[hln]at hv hbs;injection hv with MX hv2 hv3
   subst MX hv3;have hcv:=hbs.str 93 9 5 underlying93 underlying5 underlying9;go_wp2;exact azT
  have tY:Hid (Y=aX 12 j):=zq (by
   rw[HG.out,hdr];unfold sxTextGo;rw[hpl];simp[alO,Jr])
  have e4:¬((c.toNat:Int)=34):=ae;have e4':((c.toNat:Int)==34)=false:=awg.2 e4;have HW:=zq (λw1=>nI 12 j w1);clear hdr hat HG hpl;exact ayF
 intro H;go_wp2
 go_step3
 rename_i hK;refine hK _ _ (H _ _ ?_ ?_ ?_);rfl;rfl;exact⟨rfl,rfl,[],1,0,0,none,rfl,rfl,ae,h1s,ae,⟨Row.nil_ _,rfl,by simp[Value.ownBlock],kR.new (aX 0 0) w,Ev.alloc _ _,awj _⟩,HY⟩
theorem aad(s:ByteArray)(w:ak)(hs:s.size<=100000):
  Calls ax 149 #[.string s] w λe w'=>e=.returned (.string s)/\Ev w w':=by
 have HC:=zq (λw1=>Tryz.stringslite_Clone s w1 ae);go_enter func149,ntmps149
 go_wp2_with (first|((with_reducible refine(HC.out _).mono ?_);rintro x w1 ⟨rfl,aK⟩))
 go_ret;exact⟨rfl,aK⟩
theorem ayP(h:U:=by have B4:=B0;have E4:=aW;obtain⟨c0,c1,c2,c3,c4,c5,c6,c7⟩:=B4.cs;obtain⟨f0,f1,f2,f3,f4,f5,f6,f7⟩:=B4.fs;clear hTX hNU hRU hDI hLE Ij hY hrl jG;go_enter func108,ntmps108;go_wp2;exact az_):U:=h
theorem aAr(h:U:=by rw[fG];refine bodyPost_ret (jH _ B4 _ _ _ _ _ _ rfl rfl) rfl ?_;exact⟨rfl,E4.nX (gJ _ _ _ _ _ _ _ _) (awj _)⟩):U:=h
theorem ayG(h:U:=by
 go_enter func108,ntmps108
 go_wp2_with (first|((with_reducible refine(HW.out _).mono ?_);rintro e w4 ⟨rfl,iw⟩;have B4:=B0.ev iw;have E4:=aW.trans iw;obtain⟨c0,c1,c2,c3,c4,c5,c6,c7⟩:=B4.cs;obtain⟨f0,f1,f2,f3,f4,f5,f6,f7⟩:=B4.fs))
 exact aAr):U:=h
theorem ac0(s0:ByteArray)(w:ak)(h1s:1<=s0.size)(hs:s0.size<=100000):
  Calls ax 108 #[.string s0] w λe w'=>e=.returned (ZH (bK s0.data.toList))/\Ev w w':=by
 obtain⟨Y,hY⟩:∃Y,Y=bK s0.data.toList:=⟨_,rfl⟩
 rw[<-hY];have hat:=rU s0 0 h1s;have hTX:=λw1=>acZ s0 w1 h1s hs;have hNU:=λw1=>Yc s0 w1 hs;have hRU:=λw1=>Ig s0 w1 ae;have jG:s0.data.toList.length=s0.size:=by rw[awK];rfl
 obtain⟨c,hc⟩:∃c,s0[0]=c:=⟨_,rfl⟩
 have hidx:∀hh,s0[0]'hh=c:=λ_=>hc;rw[hc]at hat;clear hc;obtain⟨q,hl⟩:∃q,s0.data.toList=c::q:=by
  cases h:s0.data.toList with
  | nil=>rw[h]at hat;simp at hat
  | cons x q=>rw[h]at hat;simp at hat;exact⟨q,by rw[hat]⟩
 rw[hl]at hY hTX hNU hRU;rw[hl]at jG;have hrl:=jQ bn (c::q);rw[jG]at hrl;have hDI:=Jl c;have hLE:=GI c;have Ij:∀r,(s0.extract 0 r).data.toList=(c::q).take r:=λr=>by rw[Lib.extract_eq,hl];simp
 simp only[awR,axh]at hTX;clear hat hl;obtain⟨w0,hw0⟩:∃w0,w0=w.alloc (.cells (Xh (aX 0 0)) 157):=⟨_,rfl⟩
 have B0:kR w.heap.size (aX 0 0) w0:=hw0▸kR.new (aX 0 0) w;have aW:Ev w w0:=hw0▸Ev.alloc w _;have Yb:w.alloc (.cells #[.int .i64 0,.string ⟨#[]⟩,.int .i64 0,↑(),.int .i64 0,.int .i64 0,.int .i64 0,.int .i64 0] 157)=w0:=hw0.symm;clear hw0;by_cases Ii:c.toNat=40;have tY:Hid (Y=⟨1,[],0,1,0,0⟩):=zq (by rw[hY];simp[bK,Ii]);have e1:(c.toNat:Int)=40:=ae;exact ayP;have n40:(c.toNat==40)=false:=awg.2 Ii;have e1:¬((c.toNat:Int)=40):=ae;have e1':((c.toNat:Int)==40)=false:=awg.2 e1;by_cases h41:c.toNat=41;have tY:Hid (Y=⟨-1,[],0,1,0,0⟩):=zq (by rw[hY];simp[bK,h41]);have e2:(c.toNat:Int)=41:=ae;exact ayP;have n41:(c.toNat==41)=false:=awg.2 h41;have e2:¬((c.toNat:Int)=41):=ae;have e2':((c.toNat:Int)==41)=false:=awg.2 e2;by_cases Jr:c.toNat=34;have hY2:Y=sxTextGo [] q 1:=by rw[hY];simp[bK,Jr]
 have e3:(c.toNat:Int)=34:=ae;rw[<-hY2]at hTX;clear hY hY2 hNU hRU hDI hLE Ij hrl jG;obtain⟨k,ys,n,z,y,f⟩:=Y;have HW:=zq hTX;simp only[ZH,Xh]at HW;clear hTX;exact ayG;have n34:(c.toNat==34)=false:=awg.2 Jr;have e3:¬((c.toNat:Int)=34):=ae;have e3':((c.toNat:Int)==34)=false:=awg.2 e3;obtain⟨dg,MZ⟩:∃dg,aY c=dg:=⟨_,rfl⟩
 rw[MZ]at hDI;have HD:=zq hDI;clear hTX hDI;by_cases hnum:c.toNat=45∨dg=true
 ·have hY2:Y=dO (c::q):=by rw[hY];rcases hnum with h|h;simp[bK,h];simp[bK,n40,n41,n34,MZ,h]
  rw[<-hY2]at hNU;clear hY hY2 hRU hLE Ij hrl jG MZ;obtain⟨k,ys,n,z,y,f⟩:=Y;have HW:=zq hNU;simp only[ZH,Xh]at HW;clear hNU;by_cases h45:c.toNat=45;have e4:(c.toNat:Int)=45:=ae;clear hnum;exact ayG;have e4:¬((c.toNat:Int)=45):=ae;have e4':((c.toNat:Int)==45)=false:=awg.2 e4;obtain rfl:dg=true:=by rcases hnum with h|h;exact absurd h h45;exact h
  clear hnum;go_enter func108,ntmps108
  go_wp2_with (first|((with_reducible refine(HD.out _).mono ?_);rintro e w3 ⟨rfl,rfl⟩)|((with_reducible refine(HW.out _).mono ?_);rintro e w4 ⟨rfl,iw⟩;have B4:=B0.ev iw;have E4:=aW.trans iw;obtain⟨c0,c1,c2,c3,c4,c5,c6,c7⟩:=B4.cs;obtain⟨f0,f1,f2,f3,f4,f5,f6,f7⟩:=B4.fs))
  exact aAr
 have n45:(c.toNat==45)=false:=awg.2 (λh=>hnum (.inl h));have e4:¬((c.toNat:Int)=45):=λh=>hnum (.inl ae);have e4':((c.toNat:Int)==45)=false:=awg.2 e4;obtain rfl:dg=false:=by
  cases dg
  rfl;exact absurd (.inr rfl) hnum
 obtain⟨lt,hlt⟩:∃lt,bn c=lt:=⟨_,rfl⟩
 rw[hlt]at hLE;have qA:=zq hLE;clear hLE hNU hnum
 cases lt
 ·have tY:Hid (Y=aX 12 0):=zq (by rw[hY];simp[bK,n40,n41,n34,n45,MZ,hlt]);have HW:=λw1=>nI 12 0 w1;rw[show (((0:Nat):Int))=0 from rfl]at HW;have HW:=zq HW;clear hY hRU Ij hrl jG MZ hlt;go_enter func108,ntmps108
  go_wp2_with (first|((with_reducible refine(HD.out _).mono ?_);rintro e w3 ⟨rfl,rfl⟩)|((with_reducible refine(qA.out _).mono ?_);rintro e w3 ⟨rfl,rfl⟩)|((with_reducible refine(HW.out _).mono ?_);rintro e w4 ⟨rfl,iw⟩;have B4:=B0.ev iw;have E4:=aW.trans iw;obtain⟨c0,c1,c2,c3,c4,c5,c6,c7⟩:=B4.cs;obtain⟨f0,f1,f2,f3,f4,f5,f6,f7⟩:=B4.fs))
  exact az_
 have hY2:Y=⟨2,(c::q).take (sxRun bn (c::q)),0,sxRun bn (c::q),0,0⟩:=by rw[hY];simp[bK,n40,n41,n34,n45,MZ,hlt]
 generalize sxRun bn (c::q)=r at*;obtain⟨x,hx⟩:∃x:ByteArray,x=s0.extract 0 r:=⟨_,rfl⟩
 have UD:s0.extract 0 r=x:=hx.symm;have iJ:x.data.toList=(c::q).take r:=by rw[hx,Ij]
 have hxz:x.size<=100000:=by
  have:x.data.toList.length=x.size:=by rw[awK];rfl
  rw[<-this,iJ,awT];omega
 have tY:Hid (Y=⟨2,x.data.toList,0,r,0,0⟩):=zq (by rw[hY2,iJ]);have HCL:=zq (λw1=>aad x w1 hxz);have HRU:=zq hRU;clear hY hY2 hRU Ij MZ hlt iJ hxz hx;go_enter func108,ntmps108
 go_wp2_with (first|((with_reducible refine(HD.out _).mono ?_);rintro e w3 ⟨rfl,rfl⟩)|((with_reducible refine(qA.out _).mono ?_);rintro e w3 ⟨rfl,rfl⟩)|((with_reducible refine(HRU.out _).mono ?_);rintro e w3 ⟨rfl,rfl⟩)|((with_reducible refine(HCL.out _).mono ?_);rintro e w4 ⟨rfl,iw⟩;have B4:=B0.ev iw;have E4:=aW.trans iw;obtain⟨c0,c1,c2,c3,c4,c5,c6,c7⟩:=B4.cs;obtain⟨f0,f1,f2,f3,f4,f5,f6,f7⟩:=B4.fs))
 exact az_
inductive M where
 | mk (kind:Int) (s:By) (n:Int) (A:Option Addr) (cap:Nat) (kids:List M) (pos:Nat):M
def M.kind:M->Int
 | .mk k _ _ _ _ _ _=>k
def M.s:M->By
 | .mk _ s _ _ _ _ _=>s
def M.n:M->Int
 | .mk _ _ n _ _ _ _=>n
def M.A:M->Option Addr
 | .mk _ _ _ a _ _ _=>a
def M.cap:M->Nat
 | .mk _ _ _ _ c _ _=>c
def M.kids:M->List M
 | .mk _ _ _ _ _ l _=>l
def M.pos:M->Nat
 | .mk _ _ _ _ _ _ p=>p
mutual
def M.t:M->T
 | .mk k s n _ _ l p=>.mk k s n (M.ts l) p
def M.ts:List M->List T
 | []=>[]
 | m::l=>m.t::M.ts l
end
theorem M.jJ:∀l:List M,M.ts l=l.map M.t
 | []=>by simp[M.ts]
 | m::l=>by simp[M.ts,M.jJ l]
theorem M.rV(m:M):m.t=.mk m.kind m.s m.n (m.kids.map M.t) m.pos:=by
 cases m
 simp[M.t,M.jJ,M.kind,M.s,M.n,M.kids,M.pos]
theorem M.aZ(m:M):m.t.kids=m.kids.map M.t:=by rw[M.rV];rfl
theorem M.xB(m:M):m.t.kind=m.kind:=by rw[M.rV];rfl
theorem M.GK(m:M):m.t.pos=m.pos:=by rw[M.rV];rfl
def M.kv(m:M):au:=.slice m.A m.kids.length m.cap
def mc(m:M):List au:=[↑m.kind,↑m.s,↑m.n,m.kv,↑m.pos]
def mv(m:M):au:=.agg #[↑m.kind,↑m.s,↑m.n,m.kv,↑m.pos]
abbrev Ms:=Sl 5 mc
def kS(l:List M):List au:=l.flatMap mc
theorem lC(l:List M):(kS l).length=l.length*5:=by
 induction l with
 | nil=>rfl
 | cons x l ih=>
  have:(kS (x::l)).length=5+(kS l).length:=by simp[kS,mc];omega
  rw[this,ih,awr];omega
theorem pg(l m:List M):kS (l++m)=kS l++kS m:=by simp[kS]
theorem oH(m:M):kS [m]=mc m:=by simp[kS]
theorem Fg:∀(l:List M) (i:Nat) (x:M),l[i]?=some x->∀j u,(mc x)[j]?=some u->(kS l)[i*5+j]?=some u
 | [],_,_,h,_,_,_=>by simp at h
 | y::l,0,x,h,j,u,hu=>by simp at h;subst h;have hj:j<5:=(awi.1 hu).1;have e:kS (y::l)=mc y++kS l:=rfl;rw[e,awW,awL,axQ (by simpa[mc] using hj)];exact hu
 | y::l,i+1,x,h,j,u,hu=>by have e:kS (y::l)=mc y++kS l:=rfl;have hl:(mc y).length=5:=rfl;rw[e,axO (by rw[hl];omega),hl,show (i+1)*5+j - 5=i*5+j by omega];exact Fg l i x (by simpa using h) j u hu
theorem Cm(l:List M):∀u∈kS l,u.oneCell'=true:=by intro u hu;obtain⟨x,_,hx⟩:=axx.1 hu;simp[mc,M.kv]at hx;rcases hx with rfl|rfl|rfl|rfl|rfl<;>rfl
inductive Lies(b0:Nat)(K:List Nat)(w:ak):M->Prop
 | mk {kind:Int} {s:By} {n:Int} {A:Option Addr} {cap:Nat} {kids:List M} {pos:Nat}:Ms w A kids.length cap kids->(∀ad,A=some ad->b0<=ad.block/\ad.block<w.heap.size/\ad.block∉K)->(∀k∈kids,Lies b0 K w k)->
   Lies b0 K w (.mk kind s n A cap kids pos)
theorem Lies.ms{b0:Nat}{K:List Nat}{w:ak}{m:M}(h:Lies b0 K w m):Ms w m.A m.kids.length m.cap m.kids:=by
 cases h with
 | mk h1 h2 h3=>exact h1
theorem Lies.kid{b0:Nat}{K:List Nat}{w:ak}{m:M}(h:Lies b0 K w m):∀k∈m.kids,Lies b0 K w k:=by
 cases h with
 | mk h1 h2 h3=>exact h3
theorem ay1(h:U:=by
 induction h with
 | mk h1 h2 h3 ih=>
  refine .mk (h1.but hb λad e=>(h2 ad e).2.2) (λad e=>⟨(h2 ad e).1,awz (h2 ad e).2.1 hb.size,λhm=>?_⟩) ih;rcases hs _ hm with h4|h4|h4;exact(h2 ad e).2.2 h4;have:=(h2 ad e).1;omega;have:=(h2 ad e).2.1;omega):U:=h
theorem Lies.move{b0:Nat}{K K':List Nat}{w w':ak}{m:M}(h:Lies b0 K w m)(hb:But K w w')(hs:∀x∈K',x∈K∨x<b0∨w.heap.size<=x):Lies b0 K' w' m:=by exact ay1
theorem Lies.ev{b0:Nat}{K:List Nat}{w w':ak}{m:M}(h:Lies b0 K w m)(hE:Ev w w'):Lies b0 K w' m:=h.move (But.aV hE) λ_ hx=>.inl hx
theorem aAH(h:U:=by
 induction h with
 | mk h1 h2 h3 ih=>exact .mk h1 (λad e=>⟨awJ hb (h2 ad e).1,(h2 ad e).2⟩) ih):U:=h
theorem Lies.low{b0 b1:Nat}{K:List Nat}{w:ak}{m:M}(h:Lies b1 K w m)(hb:b0<=b1):Lies b0 K w m:=by exact aAH
theorem Lies.less{b0:Nat}{K K':List Nat}{w:ak}{m:M}(h:Lies b0 K w m)(hs:∀x∈K',x∈K∨x<b0∨w.heap.size<=x):Lies b0 K' w m:=h.move (But.refl _ _) hs
def blk(v:au)(os:List M):List Nat:=foot v++os.flatMap λe=>foot e.kv
structure Opn(base:Nat)(w:ak)(v:au)(os:List M):Prop where
 own:w.ownsRow base 101 5 v os.length (kS os)
 kid:∀e∈os,w.ownsRow base 101 5 e.kv e.kids.length (kS e.kids)
 nd:(blk v os).Nodup
 lies:∀e∈os,∀m∈e.kids,Lies base (blk v os) w m
theorem Xj{K:List Nat}{w w':ak}{base:Nat}{e:TypeId}{size:Nat}{v:au}{n:Nat}{xs:List au}(h:w.ownsRow base e size v n xs)(hb:But K w w')(hn:∀g,v.ownBlock=some g->g∉K):w'.ownsRow base e size v n xs:=by exact azW
theorem yE{v:au}{os:List M}{g:Nat}:g∈blk v os↔v.ownBlock=some g∨∃e∈os,e.kv.ownBlock=some g:=by unfold blk;simp[aG]
theorem Opn.range{base:Nat}{w:ak}{v:au}{os:List M}(h:Opn base w v os){g:Nat}(hg:g∈blk v os):base<=g/\g<w.heap.size:=by
 rcases yE.1 hg with h1|⟨e,he,h1⟩
 exact h.own.lt g h1;exact(h.kid e he).lt g h1
theorem Opn.ev{base:Nat}{w w':ak}{v:au}{os:List M}(h:Opn base w v os)(hE:Ev w w'):Opn base w' v os:=
 ⟨Pj h.own hE,λe he=>Pj (h.kid e he) hE,h.nd,λe he m hm=>(h.lies e he m hm).ev hE⟩
theorem Opn.at{base:Nat}{w:ak}{v:au}{os:List M}(h:Opn base w v os)(h0:os≠[]):∃g cap,v=.slice (some ⟨g,0,none⟩) os.length cap/\os.length<=cap/\cap<=9223372036854775807/\base<=g/\g<w.heap.size/\(∀i,w.frozen? ⟨g,i,none⟩=false)/\
  ∀i x,os[i]?=some x->w.cell? ⟨g,i*5,none⟩=some (.int .i64 x.kind)/\w.cell? ⟨g,i*5+1,none⟩=some (.string ⟨x.s.toArray⟩)/\w.cell? ⟨g,i*5+2,none⟩=some (.int .i64 x.n)/\w.cell? ⟨g,i*5+3,none⟩=some x.kv/\w.cell? ⟨g,i*5+4,none⟩=some (.int .i64 (x.pos:Int)):=by
 rcases h.own.2 with⟨_,hn⟩|⟨g,cap,cur,rfl,hg,hh,zA,hcm,hcs,ht⟩
 exact absurd (aw9 hn) h0;refine⟨g,cap,rfl,zA,by simpa[maxLen] using hcm,hg,(awu.1 hh).1,λi=>Lib.frozen_of_heap hh i,λi x hx=>?_⟩;have hi:=(awi.1 hx).1;have key:∀j u,(mc x)[j]?=some u->w.cell? ⟨g,i*5+j,none⟩=some u:=λj u hu=>by have hj:j<5:=(awi.1 hu).1;rw[World.ownsRow.cellAt h.own (i*5+j) ae];exact Fg os i x hx j u hu
 exact⟨key 0 _ rfl,key 1 _ rfl,key 2 _ rfl,key 3 _ rfl,key 4 _ rfl⟩
theorem Ms.cell{w:ak}{A:Option Addr}{n cap:Nat}{l:List M}(h:Ms w A n cap l){i:Nat}{x:M}(hx:l[i]?=some x):∃b off,A=some ⟨b,off,none⟩/\b<w.heap.size/\
  w.cell? ⟨b,off+i*5,none⟩=some ↑x.kind/\w.cell? ⟨b,off+i*5+1,none⟩=some ↑x.s/\w.cell? ⟨b,off+i*5+2,none⟩=some ↑x.n/\w.cell? ⟨b,off+i*5+3,none⟩=some x.kv/\w.cell? ⟨b,off+i*5+4,none⟩=some ↑x.pos:=by
 have hi:=(awi.1 hx).1;have hl:=h.len;obtain⟨b,off,e,hlt,hc⟩:=h.rd ae;exact⟨b,off,e,hlt,hc i x hx 0 _ rfl,hc i x hx 1 _ rfl,hc i x hx 2 _ rfl,hc i x hx 3 _ rfl,hc i x hx 4 _ rfl⟩
theorem Fh{w:ak}{base:Nat}{A:Option Addr}{n cap:Nat}{l:List M}(h:w.ownsRow base 101 5 (.slice A n cap) n (kS l)):Ms w A n cap l:=by
 have hl:l.length=n:=by have:=h.1;rw[lC]at this;omega
 rcases h.2 with⟨hv,hn⟩|⟨g,c,cur,hv,hg,hh,zA,hcm,hcs,ht⟩
 exact aAh;injection hv with h1 h2 h3
 subst h1 h3;refine⟨hl,zA,by simpa[maxLen] using hcm,aj,λh0=>⟨g,0,rfl,(awu.1 hh).1,λi x hx j u hu=>?_⟩⟩;have hi:=(awi.1 hx).1;have hj:j<5:=(awi.1 hu).1;have:=World.ownsRow.cellAt h (i*5+j) ae;rw[awL,this];exact Fg l i x hx j u hu
theorem BD{base:Nat}{v:au}{os:List M}(w:ak)(h:Opn base w v os)(h0:os≠[]):
  Calls ax 144 #[v] w λe w'=>e=.returned (.bool (sxDone (os.map M.t)))/\w=w':=by
 obtain⟨g,cap,rfl,hle,hmx,_,hg,_,hc⟩:=h.at h0
 cases os with
 | nil=>exact absurd rfl h0
 | cons e os=>
  obtain⟨_,_,_,c3,_⟩:=hc 0 e rfl;have hk:=(Fh (h.kid e (awp ..))).le;have hk2:=(Fh (h.kid e (awp ..))).max;have HF:Hid (sxDone ((e::os).map M.t)=decide (0<e.kids.length)):=zq (by
   simp only[sxDone,awo,M.aZ];cases e.kids<;>simp)
  unfold M.kv at c3;generalize e.kids.length=n at*;simp only[awW,awL]at c3;obtain⟨q,hq⟩:∃q,q=(e::os).length:=⟨_,rfl⟩
  have rW:1<=q:=by rw[hq];simp
  rw[<-hq]at hle|-;have hD:decide (0<n)=decide ((0:Int)<(n:Int)):=decide_eq_decide.2 ae;have HD:=zq hD;clear hD hq hc h;go_enter func144,ntmps144;go_wp2;go_ret;exact⟨by rw[HF.out,HD.out];rfl,rfl⟩
instance ceC:Coe M (Array au):=⟨λm=>#[.int .i64 m.kind,.string ⟨m.s.toArray⟩,.int .i64 m.n,.slice m.A m.kids.length m.cap,.int .i64 (m.pos:Int)]⟩
instance ceD(m:M):CoeDep (M×Unit) (m,()) (Array au):=⟨#[.int .i64 m.kind,.string ⟨m.s.toArray⟩,.int .i64 m.n,.slice m.A m.kids.length m.cap]⟩
instance ceE(a b:M):CoeDep (M×M) (a,b) (Array au):=⟨#[.int .i64 a.kind,.string ⟨a.s.toArray⟩,.int .i64 a.n,.slice a.A a.kids.length a.cap,.int .i64 (a.pos:Int),.int .i64 b.kind,.string ⟨b.s.toArray⟩,.int .i64 b.n,.slice b.A b.kids.length b.cap,.int .i64 (b.pos:Int)]⟩
theorem Tryz.iQ:(Tryz.prog.info? 101).map (·.size)=some 5:=ah
theorem BF{P:Program}{fn:Func}{p u1 u2:Tmp}{ty:TypeId}(h:fn.results=#[.cell p ty,.tmp u1,.tmp u2])(tmps:Array au)(w:ak)(g:Nat)(t:TypeId)(cs:Array au)(fr:Nat×Nat)(d:TypeDesc)
  (hp:tmps.getD p undef=.pointer ↑g) (hg:w.heap[g]?=some (.cells cs t fr))
  (hu:P.underlying ty=some d) (hd:(match d with|.struct _|.array _ _=>true|_=>false)=true) (hi:(P.info? ty).map (·.size)=some cs.size):
  (results fn tmps).run P w=.ok (.tuple #[.agg cs,tmps.getD u1 undef,tmps.getD u2 undef]) w:=by
 have hp':tmps[p]?.getD undef=.pointer ↑g:=by simpa using hp
 simp[results,h,hp',asAddr,run_loadVar_row w g t ty cs fr d hg hu hd hi]
def Ry(k n p:Int)(s:ByteArray)(v:au):Array au:=#[↑k,.string s,↑n,v,↑p]
theorem Ar{fn:Func}{p u1 u2:Tmp}(h:fn.results=#[.cell p 101,.tmp u1,.tmp u2])(tmps:Array au)(w:ak)(g:Nat)(k n q:Int)(s:ByteArray)(v:au)
  (hp:tmps.getD p undef=.pointer ↑g) (hg:w.heap[g]?=some (.cells (Ry k n q s v) 101 (0,0))):
  (results fn tmps).run ax w=.ok (.tuple #[.agg (Ry k n q s v),tmps.getD u1 undef,tmps.getD u2 undef]) w:=
 BF h tmps w g 101 _ _ _ hp hg underlying101 rfl Tryz.iQ
def iU:M:=.mk 0 [] 0 none 0 [] 0
theorem Lies.zero(b0:Nat)(K:List Nat)(w:ak):Lies b0 K w iU:=.mk (Sl.nil_ w) (λ_ h=>by cases h) (λ_ h=>by cases h)
theorem aaf{base:Nat}{v:au}{os:List M}(w:ak)(h:Opn base w v os)(h0:os≠[])(pos:Nat):
  Calls ax 107 #[v,↑pos] w λe w'=>∃m:M,e=.returned (.tuple #[mv m,.int .i64 (kN (os.map M.t) pos).2.1,.int .i64 ((kN (os.map M.t) pos).2.2:Int)])/\m.t=(kN (os.map M.t) pos).1/\Lies base (blk v os) w' m/\Ev w w':=by
 have HC:=λw1 (h1:Opn base w1 v os)=>BD w1 h1 h0;have hL:∀e∈os,∀m∈e.kids,Lies base (blk v os) w m:=h.lies;generalize hK:blk v os=K at*;obtain⟨g,cap,rfl,hle,hmx,_,hg,_,hc⟩:=h.at h0
 cases os with
 | nil=>exact absurd rfl h0
 | cons e os=>
  have dL:=Fh (h.kid e (awp ..));obtain⟨_,_,_,c3,_⟩:=hc 0 e rfl;have hLe:=hL e (awp ..);have aW:Ev w (w.alloc (.cells ↑Zz.a 101)):=Ev.alloc _ _;have HC:=zq (HC _ (h.ev aW));obtain⟨q,hq⟩:∃q,q=(e::os).length:=⟨_,rfl⟩
  have rW:1<=q:=by rw[hq];simp
  rw[<-hq]at hle HC|-;unfold M.kv at c3;simp only[awW,awL]at c3
  cases Po:e.kids with
  | nil=>
   have e1:sxDone ((e::os).map M.t)=false:=by simp[sxDone,M.aZ,Po]
   have e2:kN ((e::os).map M.t) pos=(dR,10,pos):=by simp[kN,M.aZ,Po]
   rw[e2];rw[e1]at HC;clear e1 e2 hc hL hLe dL h Po c3 hq;go_enter func107,ntmps107
   go_wp2_with (first|((with_reducible refine HC.out.mono ?_);rintro x w1 ⟨rfl,rfl⟩))
   refine bodyPost_ret (Ar rfl _ _ w.heap.size 0 0 0 ⟨#[]⟩ (.slice none 0 0) rfl (heap_alloc_new w _)) rfl ?_;exact⟨iU,rfl,by simp[iU,M.t,M.ts,dR],Lies.zero _ _ _,aW⟩
  | cons k0 ks=>
   have e1:sxDone ((e::os).map M.t)=true:=by simp[sxDone,M.aZ,Po]
   have e2:kN ((e::os).map M.t) pos=(k0.t,0,0):=by simp[kN,M.aZ,Po]
   rw[e2];rw[e1]at HC;have hlk:=hLe k0 (by rw[Po];exact awp ..);rw[Po]at dL c3;obtain⟨b,off,hA,hb,d0,d1,d2,d3,d4⟩:=dL.cell (i:=0) (x:=k0) rfl;rw[hA]at c3;have rH:1<=(k0::ks).length:=aj;have Jq:=dL.le;have hn3:=dL.max;generalize (k0::ks).length=n at*;simp only[awW,awM]at d0 d1 d2 d3 d4;clear e1 e2 hc hL hLe dL h Po hq;obtain⟨kk,ks',kn,kA,kc,kl,kp⟩:=k0;simp only[M.kind,M.s,M.n,M.kv,M.A,M.kids,M.cap,M.pos]at d0 d1 d2 d3 d4;go_enter func107,ntmps107
   go_wp2_with (first|((with_reducible refine HC.out.mono ?_);rintro x w1 ⟨rfl,rfl⟩))
   refine bodyPost_ret (Ar rfl _ _ w.heap.size kk kn kp ⟨ks'.toArray⟩ (.slice kA kl.length kc) rfl (heap_alloc_new w _)) rfl ?_;exact⟨.mk kk ks' kn kA kc kl kp,rfl,rfl,hlk.ev az,Ev.alloc _ _⟩
def jr(D:Bool)(q:Nat)(x:Tk):Int×Nat:=
 if !(x.why==0)&&!(D&&decide (0<x.fault)) then (x.why,x.fault)
 else if x.kind==-1&&q==1 then (12,0)
 else if !(x.kind==-1)&&D then (11,0)
 else if x.kind==1&&decide (12<q) then (14,0)
 else (0,0)
theorem Yh(os:List T)(x:Tk):iO os x=jr (sxDone os) os.length x:=rfl
theorem azF(h:U:=by
 clear hJ;go_enter func109,ntmps109
 go_wp2_with (first|((with_reducible refine HC.out.mono ?_);rintro x w1 ⟨rfl,rfl⟩))
 go_ret2
 rw[HJ.out];exact⟨rfl,aW⟩):U:=h
theorem ayt(h:U:=by subst hk;by_cases hq:q=1;subst hq;have HJ:Hid (J=(12,0)):=zq (by rw[hJ];simp[jr]);exact azF;have q1:¬((q:Int)=1):=ae;have q1':((q:Int)==1)=false:=awg.2 q1;have HJ:Hid (J=(0,0)):=zq (by rw[hJ];simp[jr,hq]);exact azF):U:=h
theorem azw(h:U:=by
 clear hJ;go_enter func109,ntmps109
 go_wp2_with (first|((with_reducible refine HC.out.mono ?_);rintro x w1 ⟨rfl,rfl⟩))
 go_quiet (fail)
 go_wp2
 go_ret2
 rw[HJ.out];exact⟨rfl,aW.trans (Ev.drewN _ _)⟩):U:=h
theorem aag{base:Nat}{v:au}{os:List M}(w:ak)(h:Opn base w v os)(h0:os≠[])(x:Tk):
  Calls ax 109 #[v,ZH x] w λe w'=>e=.returned (.tuple #[.int .i64 (iO (os.map M.t) x).1,.int .i64 ((iO (os.map M.t) x).2:Int)])/\Ev w w':=by
 have aW:Ev w (w.alloc (.cells (Xh x) 157)):=Ev.alloc _ _;have HC:=BD _ (h.ev aW) h0;obtain⟨g,cap,rfl,hle,hmx,_,hg,_,hc⟩:=h.at h0;rw[Yh,awh];have rW:1<=os.length:=by
  cases os with
  | nil=>exact absurd rfl h0
  | cons e os=>simp
 generalize os.length=q at*;generalize sxDone (os.map M.t)=D at*;obtain⟨J,hJ⟩:∃J,J=jr D q x:=⟨_,rfl⟩
 rw[<-hJ];obtain⟨k,xs,n,z,y,f⟩:=x;unfold ZH Xh at*;simp only at HC aW;have HC:=zq HC;clear hc h;by_cases hy:y=0;subst hy
 cases D
 by_cases hk:k=-1;exact ayt;have hk':(k==-1)=false:=awg.2 hk;have ah1:(k !=-1)=true:=axr.2 hk;by_cases k1:k=1;subst k1;by_cases q12:12<q;have q2:(12:Int)<(q:Int):=ae;have HJ:Hid (J=(14,0)):=zq (by rw[hJ];simp[jr,q12]);exact azF;have q2:¬((12:Int)<(q:Int)):=ae;have HJ:Hid (J=(0,0)):=zq (by rw[hJ];simp[jr,q12]);exact azF;have k1':(k==1)=false:=awg.2 k1;have HJ:Hid (J=(0,0)):=zq (by rw[hJ];simp[jr,hk,k1]);exact azF;by_cases hk:k=-1;exact ayt;have hk':(k==-1)=false:=awg.2 hk;have ah1:(k !=-1)=true:=axr.2 hk;have HJ:Hid (J=(11,0)):=zq (by rw[hJ];simp[jr,hk]);exact azF;have hy':(y==0)=false:=awg.2 hy;have arh:(y !=0)=true:=axr.2 hy
 cases D
 have HJ:Hid (J=(y,f)):=zq (by rw[hJ];simp[jr,hy]);exact azw;by_cases hf:0<f;have hf1:decide (0<f)=true:=awO hf;by_cases hk:k=-1;subst hk;by_cases hq:q=1;subst hq;have HJ:Hid (J=(12,0)):=zq (by rw[hJ];simp[jr,hf]);exact azF;have q1:¬((q:Int)=1):=ae;have q1':((q:Int)==1)=false:=awg.2 q1;have HJ:Hid (J=(0,0)):=zq (by rw[hJ];simp[jr,hf,hq]);exact azF;have hk':(k==-1)=false:=awg.2 hk;have ah1:(k !=-1)=true:=axr.2 hk;have HJ:Hid (J=(11,0)):=zq (by rw[hJ];simp[jr,hf,hk]);exact azF;have hf1:decide (0<f)=false:=awY hf;have HJ:Hid (J=(y,f)):=zq (by rw[hJ];simp[jr,hy,hf]);exact azw
def cl{α:Type}(enc:α->List au)(l:List α):List au:=l.flatMap enc
structure Enc{α:Type}(k:Nat)(enc:α->List au):Prop where
 pos:0<k
 len:∀x,(enc x).length=k
 one:∀x,∀u∈enc x,u.oneCell'=true
section
variable {α:Type} {k:Nat} {enc:α->List au}
theorem Yt(l m:List α):cl enc (l++m)=cl enc l++cl enc m:=by simp[cl]
theorem rM(x:α)(l:List α):cl enc (x::l)=enc x++cl enc l:=rfl
theorem qJ(E:Enc k enc)(l:List α):(cl enc l).length=l.length*k:=by
 induction l with
 | nil=>simp[cl]
 | cons x l ih=>rw[rM,awl,E.len,ih,awr,axz,axn,Nat.add_comm]
theorem aas(E:Enc k enc):∀(l:List α) (i:Nat) (x:α),l[i]?=some x->∀j u,(enc x)[j]?=some u->(cl enc l)[i*k+j]?=some u
 | [],_,_,h,_,_,_=>by simp at h
 | y::l,0,x,h,j,u,hu=>by simp at h;subst h;have hj:=(awi.1 hu).1;rw[rM,awW,awL,axQ hj];exact hu
 | y::l,i+1,x,h,j,u,hu=>by rw[rM,axO (by rw[E.len,axz];omega),E.len,show (i+1)*k+j - k=i*k+j by rw[axz];omega];exact aas E l i x (by simpa using h) j u hu
theorem Pz(E:Enc k enc):∀(l:List α) (q:Nat) (u:au),(cl enc l)[q]?=some u->∃i j x,q=i*k+j/\l[i]?=some x/\(enc x)[j]?=some u
 | [],q,u,h=>by simp[cl]at h
 | y::l,q,u,h=>by rw[rM]at h;by_cases hq:q<k;rw[axQ (by rw[E.len];exact hq)]at h;exact⟨0,q,y,ae,rfl,h⟩;rw[axO (by rw[E.len];omega),E.len]at h;obtain⟨i,j,x,h1,h2,h3⟩:=Pz E l (q - k) u h;exact⟨i+1,j,x,by rw[axz];omega,by simpa using h2,h3⟩
theorem afR(E:Enc k enc)(l:List α):∀u∈cl enc l,u.oneCell'=true:=by intro u hu;obtain⟨x,_,hx⟩:=axx.1 hu;exact E.one x u hx
theorem aat(E:Enc k enc):∀(l:List α) (i j:Nat) (x x':α) (u:au),l[i]?=some x->j<k->enc x'=(enc x).set j u->(cl enc l).set (i*k+j) u=cl enc (l.set i x')
 | [],i,j,x,x',u,h,_,_=>by simp at h
 | y::l,0,j,x,x',u,h,hj,he=>by simp at h;subst h;rw[List.set_cons_zero,rM,rM,he,awW,awL,List.set_append_left _ _ (by rw[E.len];exact hj)]
 | y::l,i+1,j,x,x',u,h,hj,he=>by rw[List.set_cons_succ,rM,rM,List.set_append_right _ _ (by rw[E.len,axz];omega),E.len,show (i+1)*k+j - k=i*k+j by rw[axz];omega];rw[aat E l i j x x' u (by simpa using h) hj he]
theorem Xm(E:Enc k enc):∀(l:List α) (m:Nat),(cl enc l).take (m*k)=cl enc (l.take m)
 | [],m=>by simp[cl]
 | y::l,0=>by simp[cl]
 | y::l,m+1=>by rw[axg,rM,rM,List.take_append,E.len,awC (by rw[E.len,axz];omega),show (m+1)*k - k=m*k by rw[axz];omega,Xm E l m]
theorem GN{w:ak}{b:Nat}{cs:Array au}{T:TypeId}(i:Nat)(x:au)(h:w.heap[b]?=some (.cells cs T (0,0))):(w.setCell ⟨b,i,none⟩ x).heap[b]?=some (.cells (cs.setIfInBounds i x) T (0,0)):=by simp only[World.setCell,Array.getElem?_modify,if_pos];rw[h];rfl
def Ow(et:TypeId)(k:Nat)(enc:α->List au)(base:Nat)(w:ak)(v:au)(Z:List α):Prop:=w.ownsRow base et k v Z.length (cl enc Z)
variable {et:TypeId} {base:Nat} {w w':ak} {v:au} {Z:List α}
theorem Ow.nil_(w:ak):Ow et k enc base w ↑() ([]:List α):=World.ownsRow_nil _ _ _ _
theorem Ow.but{K:List Nat}(h:Ow et k enc base w v Z)(hb:But K w w')(hn:∀g,v.ownBlock=some g->g∉K):Ow et k enc base w' v Z:=by exact azW
theorem Ow.ev(h:Ow et k enc base w v Z)(hE:Ev w w'):Ow et k enc base w' v Z:=Pj h hE
theorem Ow.lt(h:Ow et k enc base w v Z){g:Nat}(hg:v.ownBlock=some g):base<=g/\g<w.heap.size:=World.ownsRow.lt h g hg
theorem Ow.form(E:Enc k enc)(h:Ow et k enc base w v Z):∃A cap,v=.slice A Z.length cap/\Sl k enc w A Z.length cap Z/\∀ad,A=some ad->v.ownBlock=some ad.block/\base<=ad.block/\ad.block<w.heap.size/\ad=⟨ad.block,0,none⟩/\∀i,w.frozen? ⟨ad.block,i,none⟩=false:=by
 have hlt:=λg hg=>World.ownsRow.lt h g hg;rcases h.2 with⟨rfl,hn⟩|⟨g,cap,cur,rfl,hb,hg,zA,hcm,hcs,ht⟩
 have hl:Z=[]:=aw9 hn;subst hl;exact⟨none,0,rfl,Sl.nil_ w,aj⟩;refine⟨_,_,rfl,⟨rfl,zA,by simpa[maxLen] using hcm,aj,λh0=>⟨g,0,rfl,(awu.1 hg).1,λi x hx j u hu=>?_⟩⟩,?_⟩;have hi:=(awi.1 hx).1;have hj:=(awi.1 hu).1;rw[E.len]at hj;have:=World.ownsRow.cellAt h (i*k+j) (by have:(i+1)*k<=Z.length*k:=Nat.mul_le_mul_right _ hi;rw[axz]at this;omega);rw[awL,this];exact aas E Z i x hx j u hu;rintro ad ⟨⟩;exact⟨rfl,(hlt g rfl).1,(hlt g rfl).2,rfl,λi=>Lib.frozen_of_heap hg i⟩
theorem Ow.made(E:Enc k enc)(w:ak)(l:List α)(cs:Array au)(h:cs.toList=cl enc l)(hb:base<=w.heap.size)(hl:l.length<=1000000):Ow et k enc base (w.alloc (.cells cs et)) (.slice ↑w.heap.size l.length l.length) l:=by
 have hs:cs.size=l.length*k:=by rw[<-awK,h,qJ E]
 refine⟨qJ E l,.inr ⟨w.heap.size,l.length,cs,rfl,hb,heap_alloc_new w _,awj _,by unfold maxLen;omega,hs,?_⟩⟩;rw[h,awC (by rw[qJ E];exact awj _)]
theorem Ow.to(E:Enc k enc)(h:Ow et k enc base w v Z){A:Option Addr}{n cap:Nat}(hv:v=.slice A n cap)(m:Nat)(hm:m<=Z.length):Ow et k enc base w (.slice A m cap) (Z.take m):=by
 have hl:(Z.take m).length=m:=by rw[awT];omega
 rcases h.2 with⟨h1,hn⟩|⟨g,cap',cur,h1,hb,hg,zA,hcm,hcs,ht⟩
 rw[hv]at h1;injection h1 with h1 h2 h3
 subst h1 h3;have:m=0:=ae;subst this;exact World.ownsRow_nil _ _ _ _;rw[hv]at h1;injection h1 with h1 h2 h3
 subst h1 h3;refine⟨qJ E _,.inr ⟨g,cap,cur,by rw[hl],hb,hg,by rw[hl];omega,hcm,hcs,?_⟩⟩;rw[hl,<-Xm E,<-ht,List.take_take];congr 1;exact(Nat.min_eq_left (Nat.mul_le_mul_right _ hm)).symm
theorem Ow.set(E:Enc k enc){g n cap:Nat}(h:Ow et k enc base w (.slice ↑g n cap) Z){i j:Nat}{x x':α}{u:au}(hx:Z[i]?=some x)(hj:j<k)(he:enc x'=(enc x).set j u):
  Ow et k enc base (w.setCell ⟨g,i*k+j,none⟩ u) (.slice ↑g n cap) (Z.set i x'):=by
 rcases h.2 with⟨h1,hn⟩|⟨g',cap',cur,h1,hb,hg,zA,hcm,hcs,ht⟩
 cases h1
 injection h1 with h1 h2 h3
 injection h1 with h1
 injection h1 with h1 _ _
 subst h1 h3;refine⟨qJ E _,.inr ⟨g,cap,_,by rw[List.length_set,h2],hb,GN _ _ hg,by rw[List.length_set];exact zA,hcm,by simpa using hcs,?_⟩⟩;rw[List.length_set,<-aat E Z i j x x' u hx hj he,<-ht,Array.toList_setIfInBounds,List.take_set]
theorem aAs(h:U:=by obtain rfl:=aw3 e;have:=hc i' x hx j' u hxu;rw[Addr.add_lit];rwa [show off+i'*k+j'=off+(i'*k+j') by omega]at this):U:=h
theorem j_{P:Program}(E:Enc k enc)(T ty:TypeId)(ht:P.underlying T=some (.slice et)){zero:au}{bytes:Nat}(hi:(P.info? et).map (λi=>(i.zero,i.size,i.bytes))=some (some zero,k,bytes))(hz:zero.cells.size=k)
  (hown:Ow et k enc base w v Z) (A:Option Addr) (m c:Nat) (l:List α) (hB:Sl k enc w A m c l) (hbytes:(Z.length+l.length)*bytes<=140737488355328) (hsm:Z.length+l.length<=1000000000) (hbase:base<=w.heap.size):
  ∃v' w',(Builtin.append_ #[T,T] ty #[v,.slice A m c]).run P w=.ok v' w'/\Ow et k enc base w' v' (Z++l)/\But (foot v) w w'/\fF w v v'/\(v'.ownBlock=v.ownBlock∨v'.ownBlock=some w.heap.size):=by
 obtain⟨i,DK,hz',hsz,hby⟩:=info_parts hi;have hl:=hB.len
 cases A with
 | none=>
  obtain⟨h0,h1⟩:=hB.nil rfl;subst h0 h1;have hnil:l=[]:=aw9 hl;subst hnil;exact⟨v,w,run_append_owned_none (P:=P) (w:=w) base T ty et i k ht DK v _ _ hown,by simpa using hown,But.refl _ _,fF.refl _ _,.inl rfl⟩
 | some ad=>
  have hcells:∀j u,(cl enc l)[j]?=some u->w.cell? (ad.add j)=some u:=by intro q u hu;obtain⟨i',j',x,rfl,hx,hxu⟩:=Pz E l q u hu;have hq:=(awi.1 hx).1;obtain⟨b,off,e,_,hc⟩:=hB.rd ae;exact aAs
  obtain⟨v',w',hr',h1,h2,_,h4⟩:=run_append_own_at (P:=P) w base T ty et i zero k bytes ht DK hz' hsz hby hz E.pos v Z.length (cl enc Z) hown ad m c (cl enc l) (by rw[qJ E,hl]) hcells (afR E l) (by unfold maxLen;omega) (by rw[<-hl];exact hbytes) hbase;have Yu:But (foot v) w w':=But.grown h2 (λg hg=>aG.2 hg);have al7:fF w v v':=λg hg=>by rcases h4 with h4|h4;exact .inl (h4▸hg);rw[h4]at hg;simp at hg;exact .inr ae
  exact⟨v',w',hr',by unfold Ow;rw[Yt,awl,hl];exact h1,Yu,al7,h4⟩
def nR(et:TypeId)(k:Nat)(enc:α->List au)(base:Nat)(w:ak)(v:au)(Z':List α)(v':au)(w':ak):Prop:=
 Ow et k enc base w' v' Z'/\But (foot v) w w'/\fF w v v'
theorem aO{P:Program}{ops:Array Oper}{rest:List Oper}{o:Oper}{a:Act}{Q:Exit->Act->ak->Prop}(hgd:o.guard=none)(T:TypeId)(s x:Operand)
  (ho:o.op=.call {callee:=.builtin .append,args:=#[s,x],argTypes:=#[T,T]}) (E:Enc k enc)
  (ht:P.underlying T=some (.slice et)) {zero:au} {bytes:Nat} (hi:(P.info? et).map (λi=>(i.zero,i.size,i.bytes))=some (some zero,k,bytes)) (hz:zero.cells.size=k)
  (hs:a.eval s=v) (hown:Ow et k enc base w v Z) (A:Option Addr) (m c:Nat) (l:List α) (hx:a.eval x=.slice A m c) (hB:Sl k enc w A m c l)
  (hbytes:(Z.length+l.length)*bytes<=140737488355328) (hsm:Z.length+l.length<=1000000000) (hbase:base<=w.heap.size)
  (h:∀v' w',nR et k enc base w v (Z++l) v' w'->wpList P ops Q rest (a.put o.dst v') w'):wpList P ops Q (o::rest) a w:=by
 refine wpList_plain hgd λK hK=>?_;obtain⟨v',w',hr,h2,h3,h4,_⟩:=j_ (P:=P) E T o.type ht hi hz hown A m c l hB hbytes hsm hbase;unfold Oper.wp execOp;simp only[ho,resolve,invoke,builtin,Sem.run_bind,Sem.run_pure,Result.andThen_ok,axl,awo,awG,hs,hx,hr];exact hK _ _ (h v' w' ⟨h2,h3,h4⟩)
theorem Sl.one(E:Enc k enc)(w:ak)(x:α)(cs:Array au)(h:cs.toList=enc x):Sl k enc (w.alloc (.cells cs et)) ↑w.heap.size 1 1 [x]:=
 ⟨rfl,awj _,ae,aj,λ_=>⟨w.heap.size,0,rfl,aj,λi y hy j u hu=>by
  have hi:i=0:=by have:=(awi.1 hy).1;simp at this;omega
  subst hi;simp at hy;subst hy;rw[Lib.cell_of_heap (heap_alloc_new w _),awW,awL];rw[<-h]at hu;simpa using hu⟩⟩
end
end Go.Proofs.YtpbfokkocaemlaaGreatDoor
