import Derived.Test.YtbgmhhfjkkfhpaaGreatDoorZ15G
set_option linter.unusedVariables false
set_option maxRecDepth 100000
set_option maxHeartbeats 64000000
namespace Go.Proofs.YtbgmhhfjkkfhpaaGreatDoor
open Go.RowKit
open Go.Lib renaming hid → zq
open Go renaming World → ak
open Go renaming Value → au
open Go.Proofs.Tryz renaming prog → ax
variable {U:Prop}
open Go.Proofs.Tryz
theorem Bq{P:Program}{c R:Code}{Q:Exit->Act->ak->Prop}{a:Act}{w:ak}(l n:Nat)(JJ:(Nat->au)->ak->Prop)(μ:(Nat->au)->ak->Nat)(hf:findLabel c l=some (.seq .skip R))
  (pass:∀s w,JJ s w->R.wp P (Exit.jump l (λa' w'=>(a'.defers=[]/\a'.tmps.size=n/\JJ (λd=>a'.eval (.tmp d)) w')/\μ (λd=>a'.eval (.tmp d)) w'<μ s w) Q) ⟨((List.range n).map s).toArray,[]⟩ w)
  (first:(∀(a:Act) w,a.defers=[]->a.tmps.size=n->JJ (λd=>a.eval (.tmp d)) w->R.wp P (Exit.jump l (λa' w'=>a'.defers=[]/\a'.tmps.size=n/\JJ (λd=>a'.eval (.tmp d)) w') Q) a w)->
   c.wp P (Exit.jump l (λa' w'=>a'.defers=[]/\a'.tmps.size=n/\JJ (λd=>a'.eval (.tmp d)) w') Q) a w):(Code.scope c).wp P Q a w:=by
 have ajq:∀(a:Act) w,(a.defers=[]/\a.tmps.size=n/\JJ (λd=>a.eval (.tmp d)) w)->R.wp P (Exit.jump l (λa' w'=>(a'.defers=[]/\a'.tmps.size=n/\JJ (λd=>a'.eval (.tmp d)) w')/\(λ(a:Act) w=>μ (λd=>a.eval (.tmp d)) w) a' w'<(λ(a:Act) w=>μ (λd=>a.eval (.tmp d)) w) a w) Q) a w:=by
  rintro a w ⟨h1,h2,h3⟩;have:=pass (λd=>a.eval (.tmp d)) w h3;have e:a=⟨((List.range n).map λd=>a.eval (.tmp d)).toArray,[]⟩:=by rw[<-h1];exact nN h2
  rw[<-e]at this;exact this
 refine wp_scope_jumps l _ (λa w=>μ (λd=>a.eval (.tmp d)) w) hf (first λa w h1 h2 h3=>Code.wp_mono ?_ (ajq a w ⟨h1,h2,h3⟩)) (λa w h=>wp_seq (wp_skip (ajq a w h)));intro e a' w' h;cases e with
 | goto l'=>exact⟨h.1,h.2.1⟩
 | _=>exact h
theorem Xz(B:By)(c:UInt8)(q:By)(i:Nat)(hp:bV c=false)(hc:c.toNat=92):sxTextGo B (c::q) i=
  if (sxEscaped q).2=0 then sxTextGo (B++[(sxEscaped q).1]) (q.drop 2) (i+3) else if (sxEscaped q).2=10 then aW 10 (i+1+q.length) else aW 12 i:=by
 conv=>lhs;unfold sxTextGo
 rw[hp];simp only[aDq,aDU,hc]
 cases q with
 | nil=>simp[sxEscaped]
 | cons x q1=>
  cases hx:gV x with
  | none=>simp[sxEscaped,hx]
  | some a=>
   cases q1 with
   | nil=>simp[sxEscaped,hx]
   | cons y q2=>
    cases hy:gV y with
    | none=>simp[sxEscaped,hx,hy]
    | some b=>simp[sxEscaped,hx,hy]
theorem aaZ(q:By):(sxEscaped q).2=0∨(sxEscaped q).2=10∨(sxEscaped q).2=12:=by
 cases q with
 | nil=>simp[sxEscaped]
 | cons x q1=>
  cases hx:gV x with
  | none=>simp[sxEscaped,hx]
  | some a=>
   cases q1 with
   | nil=>simp[sxEscaped,hx]
   | cons y q2=>
    cases hy:gV y with
    | none=>simp[sxEscaped,hx,hy]
    | some b=>simp[sxEscaped,hx,hy]
theorem aa0(q:By):(sxEscaped q).2=0->2<=q.length:=by
 cases q with
 | nil=>simp[sxEscaped]
 | cons x q1=>
  cases q1 with
  | nil=>cases hx:gV x<;>simp[sxEscaped,hx]
  | cons y q2=>intro _;simp
structure XA(g:Nat)(w0:ak)(A:Option Addr)(n cap:Nat)(b:By)(w:ak):Prop where
 row:Row w (.slice A n cap) b
 len:b.length=n
 high:∀k,(Value.slice A n cap).ownBlock=some k->g<k
 box:jZ g (aW 0 0) w
 ev:Ev w0 w
 base:w0.heap.size<=g
theorem XA.step{g:Nat}{w0 w w1:ak}{A:Option Addr}{n cap:Nat}{b B1:By}{v1:au}(h:XA g w0 A n cap b w)(hr:Row w1 v1 B1)(hb:But (foot (.slice A n cap)) w w1)(hs:dE w (.slice A n cap) v1):
  ∃A1 n1 cap1,v1=.slice A1 n1 cap1/\XA g w0 A1 n1 cap1 B1 w1:=by
 obtain⟨A1,cap1,rfl,_,_,_⟩:=hr.bs;have hl:=h.box.lt;refine⟨A1,_,cap1,rfl,hr,rfl,λk hk=>?_,h.box.but hb (λhm=>Nat.lt_irrefl _ (h.high _ (aG.1 hm))),?_,h.base⟩;rcases hs k hk with h1|h1;exact h.high k h1;omega;exact((But.aU (K:=foot (.slice A n cap)) h.ev).then hb).ev λk hk=>by have:=h.high k (aG.1 hk);have:=h.base;omega
theorem XA.evs{g:Nat}{w0 w w1:ak}{A:Option Addr}{n cap:Nat}{b:By}(h:XA g w0 A n cap b w)(hE:Ev w w1):XA g w0 A n cap b w1:=
 ⟨h.row.ev hE,h.len,h.high,h.box.ev hE,h.ev.trans hE,h.base⟩
theorem lX(why:Int)(fault:Nat)(w:ak):
  Calls ax 235 #[↑why,↑fault] w λe w'=>e=.returned (.agg #[.int .i64 0,.string ⟨#[]⟩,.int .i64 0,↑(),.int .i64 0,.int .i64 0,↑why,↑fault])/\Ev w w':=Ut why fault w
theorem xh(w:ak)(x:UInt8):Bs (w.alloc (.cells #[.int .u8 (x.toNat:Int)] 5)) ↑w 1 1 [x]:=Bs.made [x] _ rfl aj
theorem DC(l:By)(j:Nat)(c:UInt8)(h:l[j]?=some c):l.drop j=c::l.drop (j+1):=by obtain⟨hj,e⟩:=aC6.1 h;rw[aEl hj,e]
theorem aHG(h:U:=by rw[eX];refine aFe (jA _ B4 _ _ _ _ _ _ rfl rfl) rfl ?_;exact⟨by rw[qQ.out];rfl,E4.mG (fV _ _ _ _ _ _ _ _) (aC8 _)⟩):U:=h
theorem aHm(h:U:=by simp only[Exit.jump];exact aHG):U:=h
theorem aFW(h:U:=by
 go_wp2_with (first|((with_reducible refine(HW.out _).mono ?_);rintro e w4 ⟨rfl,gy⟩;have B4:=(ST1.evs gy).box;have E4:=(ST1.evs gy).ev;obtain⟨c0,c1,c2,c3,c4,c5,c6,c7⟩:=B4.cs;obtain⟨f0,f1,f2,f3,f4,f5,f6,f7⟩:=B4.fs))
 exact aHm):U:=h
theorem aFM(h:U:=by
 go_wp2_with (first
  | ((with_reducible refine(HE.out _).mono ?_);rintro e w4 ⟨rfl,rfl⟩)
  | ((with_reducible refine(HW.out _).mono ?_);rintro e w4 ⟨rfl,gy⟩;have B4:=(ST1.evs gy).box;have E4:=(ST1.evs gy).ev;obtain⟨c0,c1,c2,c3,c4,c5,c6,c7⟩:=B4.cs;obtain⟨f0,f1,f2,f3,f4,f5,f6,f7⟩:=B4.fs))
 exact aHm):U:=h
theorem ahj(s0:ByteArray)(w:ak)(h1s:1<=s0.size)(hs:s0.size<=100000):
  Calls ax 230 #[.string s0] w λe w'=>e=.returned (tkv (sxTextGo [] (s0.data.toList.drop 1) 1))/\Ev w w':=by
 have kN:s0.data.toList.length=s0.size:=by rw[aDK];rfl
 obtain⟨Y,hY⟩:∃Y,Y=sxTextGo [] (s0.data.toList.drop 1) 1:=⟨_,rfl⟩
 rw[<-hY];have HY:=zq hY;have HL:=zq kN;clear hY kN;go_enter func230,ntmps230;go_wp2;refine Bq 0 78 (λs w2=>s 0=.string s0/\s 2=.pointer ↑w/\∃(b:By) (i n cap:Nat) (A:Option Addr),s 3=.slice A n cap/\s 4=↑i/\1<=i/\i<=s0.size/\n<=i/\XA w.heap.size w A n cap b w2/\Hid (Y=sxTextGo b (s0.data.toList.drop i) i)) (λs _=>s0.size-(intOf (s 4)).toNat) rfl ?_ ?_
 ·rintro s w2 ⟨h0,h2,b,i,n,cap,A,h3,h4,hi1,hi,hni,ST,HT⟩;change Code.wp _ _ _ ⟨#[s 0,s 1,s 2,s 3,s 4,s 5,s 6,s 7,s 8,s 9,s 10,s 11,s 12,s 13,s 14,s 15,s 16,s 17,s 18,s 19,s 20,s 21,s 22,s 23,s 24,s 25,s 26,s 27,s 28,s 29,s 30,s 31,s 32,s 33,s 34,s 35,s 36,s 37,s 38,s 39,s 40,s 41,s 42,s 43,s 44,s 45,s 46,s 47,s 48,s 49,s 50,s 51,s 52,s 53,s 54,s 55,s 56,s 57,s 58,s 59,s 60,s 61,s 62,s 63,s 64,s 65,s 66,s 67,s 68,s 69,s 70,s 71,s 72,s 73,s 74,s 75,s 76,s 77],[]⟩ _;simp only[h0,h2,h3,h4];clear h0 h2;obtain⟨r,hr⟩:∃r:ByteArray,r=s0.extract i s0.size:=⟨_,rfl⟩
  have hx:s0.extract i s0.size=r:=hr.symm;have hrl:r.data.toList=s0.data.toList.drop i:=by rw[hr,Lib.extract_eq,aDj (by rw[aDD,HL.out];exact aC8 _)]
  have hrz:r.size=s0.size-i:=by
   have:r.data.toList.length=r.size:=by rw[aDK];rfl
   rw[<-this,hrl,aDD,HL.out]
  have HR:=zq (λw1=>KL r w1 ae);rw[hrl]at HR;have akE:=jJ bV (s0.data.toList.drop i);have hstop:=λc h=>KG bV (s0.data.toList.drop i) c h;have hgo:=Dz (s0.data.toList.drop i) b i;rw[<-HT.out,aEP]at hgo;rw[aDD,HL.out]at akE;generalize hp:sxRun bV (s0.data.toList.drop i)=p at*;have hml:(s0.extract i (i+p)).data.toList=(s0.data.toList.drop i).take p:=by rw[Lib.extract_eq,show i+p-i=p by omega]
  have hmz:(s0.extract i (i+p)).size=p:=by
   have:(s0.extract i (i+p)).data.toList.length=(s0.extract i (i+p)).size:=by rw[aDK];rfl
   rw[<-this,hml,aDP,aDD,HL.out];omega
  have adF:∀c,s0.data.toList[i+p]?=some c->bV c=false:=λc h=>hstop c (by rw[aES];exact h);have HS:=zq adF;have HG:=zq hgo;have HM:=zq hml;have HB:=zq ST.len;have HZ:=zq hmz;clear hstop adF hgo hr hrl hp hml hmz HT;go_upto_region 6 with (first
   | ((with_reducible refine(HR.out _).mono ?_);rintro e w3 ⟨rfl,rfl⟩)
   | ((show wpList _ _ _ (⟨some 19,_,_,_,_,_⟩::_) _ _);refine uw (o:=⟨some 19,_,_,_,_,_⟩) rfl (.tmp 12) (.tmp 18) rfl underlying180 underlying9 Tryz.Fg (.slice A n cap) b rfl ST.row (s0.extract i (i+p)) rfl (by rw[HB.out,HZ.out];omega) ?_;intro v1 w3 hr1 hb1 hs1;obtain⟨A1,n1,cap1,rfl,ST1⟩:=ST.step hr1 hb1 hs1))
  rw[HM.out]at ST1;have uC:n1<=i+p:=by rw[<-ST1.len,aDd,aDP,HB.out];omega
  have hj:i+p<=s0.size:=ae;have e1:(i:Int)+(p:Int)=((i+p:Nat):Int):=ae;simp only[e1];generalize b++(s0.data.toList.drop i).take p=B1 at*;have qN:i<=i+p:=ae;generalize i+p=j at*;clear hr1 hs1 hb1 HM HZ HR ST e1;by_cases hjz:j=s0.size;have qQ:Hid (Y=aW 10 s0.size):=zq (by
   rw[HG.out,aDO (by rw[HL.out];omega),hjz];rfl)
  have e2:(j:Int)=(s0.size:Int):=ae;have HW:=zq (λw1=>lX 10 s0.size w1);clear HG hjz;exact aFW;have hlt:j<s0.size:=ae;have hat:=qo s0 j hlt;obtain⟨c,hc⟩:∃c,s0[j]=c:=⟨_,rfl⟩
  have hidx:∀hh,s0[j]'hh=c:=λ_=>hc;rw[hc]at hat;have hpl:=HS.out c hat;have hdr:=DC _ _ _ hat;clear hc;have e2:¬((j:Int)=(s0.size:Int)):=ae;have e2':((j:Int)==(s0.size:Int))=false:=aC7.2 e2;have Zy:j<=100000:=ae;by_cases WH:c.toNat=92
  ·have hsp:=Xz B1 c (s0.data.toList.drop (j+1)) j hpl WH;rw[<-hdr,<-HG.out]at hsp;have e3:(c.toNat:Int)=92:=ae;obtain⟨y,hy⟩:∃y:ByteArray,y=s0.extract (j+1) s0.size:=⟨_,rfl⟩
   have Fj:s0.extract (j+1) s0.size=y:=hy.symm;have QU:y.data.toList=s0.data.toList.drop (j+1):=by rw[hy,Lib.extract_eq,aDj (by rw[aDD,HL.out];exact aC8 _)]
   have hyz:y.size=s0.size-(j+1):=by
    have:y.data.toList.length=y.size:=by rw[aDK];rfl
    rw[<-this,QU,aDD,HL.out]
   have HE:=λw1=>Xy y w1 ae;rw[QU]at HE;rw[aDD,HL.out,aEP]at hsp;have ahk:=aaZ (s0.data.toList.drop (j+1));have hlen:=aa0 (s0.data.toList.drop (j+1));rw[aDD,HL.out]at hlen;generalize sxEscaped (s0.data.toList.drop (j+1))=R at*;obtain⟨x,why⟩:=R;simp only at HE hsp ahk hlen;have HE:=zq HE;have qQ:=zq hsp;clear hsp hy QU hat hdr hpl HG;rcases ahk with rfl|rfl|rfl
   ·have hj3:j+3<=s0.size:=by have:=hlen rfl;omega
    have nY:=zq (xh w3 x);have vU:=zq ST1.len;have HSQ:Hid (Y=sxTextGo (B1++[x]) (s0.data.toList.drop (j+3)) (j+3)):=zq (by rw[qQ.out];rfl);clear qQ hlen
    go_wp2_with (first
     | ((with_reducible refine(HE.out _).mono ?_);rintro e w4 ⟨rfl,rfl⟩)
     | ((show wpList _ _ _ (⟨some 57,_,_,_,_,_⟩::_) _ _);refine nO (o:=⟨some 57,_,_,_,_,_⟩) rfl (.tmp 54) (.tmp 56) rfl underlying180 Tryz.Fg (.slice A1 n1 cap1) B1 rfl (ST1.row.ev aC) ↑w3 1 1 [x] rfl nY.out (by rw[vU.out];simp;omega) ?_;intro v2 w5 hr2 hb2 hs2;obtain⟨A2,n2,cap2,rfl,ST2⟩:=(ST1.evs aC).step hr2 hb2 hs2))
    go_step3
    exact⟨rfl,⟨rfl,rfl,rfl,rfl,B1++[x],j+3,n2,cap2,A2,rfl,rfl,ae,hj3,by rw[<-ST2.len,aDd,vU.out];simp;omega,ST2,HSQ⟩,by simp[Act.eval,intOf];omega⟩
   have HSQ:Hid (Y=aW 10 s0.size):=zq (by rw[qQ.out];simp;rw[show j+1+(s0.size-(j+1))=s0.size by omega]);clear qQ hlen;have qQ:=HSQ;clear HSQ;have HW:=zq (λw1=>lX 10 s0.size w1);exact aFM;have HSQ:Hid (Y=aW 12 j):=zq (by rw[qQ.out];simp);clear qQ hlen;have qQ:=HSQ;clear HSQ;have HW:=zq (λw1=>lX 12 j w1);exact aFM
  have asY:(c.toNat==92)=false:=aC7.2 WH;have e3:¬((c.toNat:Int)=92):=ae;have e3':((c.toNat:Int)==92)=false:=aC7.2 e3;by_cases KP:c.toNat=34
  ·have qQ:Hid (Y=if 40<B1.length then aW 3 0 else ⟨4,B1,0,j+1,0,0⟩):=zq (by
    rw[HG.out,hdr];unfold sxTextGo;rw[hpl];simp[KP])
   have e4:(c.toNat:Int)=34:=ae;have Xt:=ST1.len;rw[Xt]at qQ;clear hdr hat HG hpl;by_cases IU:40<n1;have HSQ:Hid (Y=aW 3 0):=zq (by rw[qQ.out,if_pos IU]);clear qQ;have qQ:=HSQ;clear HSQ;have HW:=λw1=>lX 3 0 w1;rw[show (((0:Nat):Int))=0 from rfl]at HW;have HW:=zq HW;have e5:(40:Int)<(n1:Int):=ae;exact aFW;have HSQ:Hid (Y=⟨4,B1,0,j+1,0,0⟩):=zq (by rw[qQ.out,if_neg IU]);clear qQ;have qQ:=HSQ;clear HSQ;have e5:¬((40:Int)<(n1:Int)):=ae;have B4:=ST1.box;have E4:=ST1.ev;obtain⟨c0,c1,c2,c3,c4,c5,c6,c7⟩:=B4.cs;obtain⟨f0,f1,f2,f3,f4,f5,f6,f7⟩:=B4.fs;obtain⟨A1',an0,hv,hbs,_,_⟩:=ST1.row.bs;rw[Xt]at hv hbs;injection hv with BR hv2 hv3
   subst BR hv3;have hcv:=hbs.str 180 9 5 underlying180 underlying5 underlying9;go_wp2;exact aHm
  have qQ:Hid (Y=aW 12 j):=zq (by
   rw[HG.out,hdr];unfold sxTextGo;rw[hpl];simp[asY,KP])
  have e4:¬((c.toNat:Int)=34):=ae;have e4':((c.toNat:Int)==34)=false:=aC7.2 e4;have HW:=zq (λw1=>lX 12 j w1);clear hdr hat HG hpl;exact aFW
 intro H;go_wp2
 go_step3
 rename_i hK;refine hK _ _ (H _ _ ?_ ?_ ?_);rfl;rfl;exact⟨rfl,rfl,[],1,0,0,none,rfl,rfl,ae,h1s,ae,⟨Row.nil_ _,rfl,by simp[Value.ownBlock],jZ.new (aW 0 0) w,Ev.alloc _ _,aC8 _⟩,HY⟩
theorem adG(s:ByteArray)(w:ak)(hs:s.size<=100000):
  Calls ax 234 #[.string s] w λe w'=>e=.returned (.string s)/\Ev w w':=by
 have HC:=zq (λw1=>Tryz.stringslite_Clone s w1 ae);go_enter func234,ntmps234
 go_wp2_with (first|((with_reducible refine(HC.out _).mono ?_);rintro x w1 ⟨rfl,aJ⟩))
 go_ret;exact⟨rfl,aJ⟩
theorem aF8(h:U:=by have B4:=B0;have E4:=aV;obtain⟨c0,c1,c2,c3,c4,c5,c6,c7⟩:=B4.cs;obtain⟨f0,f1,f2,f3,f4,f5,f6,f7⟩:=B4.fs;clear hTX hNU hRU hDI hLE H5 hY hrl kN;go_enter func183,ntmps183;go_wp2;exact aHG):U:=h
theorem aHY(h:U:=by rw[eX];refine aFe (jA _ B4 _ _ _ _ _ _ rfl rfl) rfl ?_;exact⟨rfl,E4.mG (fV _ _ _ _ _ _ _ _) (aC8 _)⟩):U:=h
theorem aFX(h:U:=by
 go_enter func183,ntmps183
 go_wp2_with (first|((with_reducible refine(HW.out _).mono ?_);rintro e w4 ⟨rfl,gy⟩;have B4:=B0.ev gy;have E4:=aV.trans gy;obtain⟨c0,c1,c2,c3,c4,c5,c6,c7⟩:=B4.cs;obtain⟨f0,f1,f2,f3,f4,f5,f6,f7⟩:=B4.fs))
 exact aHY):U:=h
theorem ahl(s0:ByteArray)(w:ak)(h1s:1<=s0.size)(hs:s0.size<=100000):
  Calls ax 183 #[.string s0] w λe w'=>e=.returned (tkv (bJ s0.data.toList))/\Ev w w':=by
 obtain⟨Y,hY⟩:∃Y,Y=bJ s0.data.toList:=⟨_,rfl⟩
 rw[<-hY];have hat:=qo s0 0 h1s;have hTX:=λw1=>ahj s0 w1 h1s hs;have hNU:=λw1=>aaY s0 w1 hs;have hRU:=λw1=>IQ s0 w1 ae;have kN:s0.data.toList.length=s0.size:=by rw[aDK];rfl
 obtain⟨c,hc⟩:∃c,s0[0]=c:=⟨_,rfl⟩
 have hidx:∀hh,s0[0]'hh=c:=λ_=>hc;rw[hc]at hat;clear hc;obtain⟨q,hl⟩:∃q,s0.data.toList=c::q:=by
  cases h:s0.data.toList with
  | nil=>rw[h]at hat;simp at hat
  | cons x q=>rw[h]at hat;simp at hat;exact⟨q,by rw[hat]⟩
 rw[hl]at hY hTX hNU hRU;rw[hl]at kN;have hrl:=jJ bC (c::q);rw[kN]at hrl;have hDI:=KH c;have hLE:=Hz c;have H5:∀r,(s0.extract 0 r).data.toList=(c::q).take r:=λr=>by rw[Lib.extract_eq,hl];simp
 simp only[aDJ,aEc]at hTX;clear hat hl;obtain⟨w0,hw0⟩:∃w0,w0=w.alloc (.cells (Zw (aW 0 0)) 255):=⟨_,rfl⟩
 have B0:jZ w.heap.size (aW 0 0) w0:=hw0▸jZ.new (aW 0 0) w;have aV:Ev w w0:=hw0▸Ev.alloc w _;have ahh:w.alloc (.cells #[.int .i64 0,.string ⟨#[]⟩,.int .i64 0,↑(),.int .i64 0,.int .i64 0,.int .i64 0,.int .i64 0] 255)=w0:=hw0.symm;clear hw0;by_cases IU:c.toNat=40;have qQ:Hid (Y=⟨1,[],0,1,0,0⟩):=zq (by rw[hY];simp[bJ,IU]);have e1:(c.toNat:Int)=40:=ae;exact aF8;have n40:(c.toNat==40)=false:=aC7.2 IU;have e1:¬((c.toNat:Int)=40):=ae;have e1':((c.toNat:Int)==40)=false:=aC7.2 e1;by_cases h41:c.toNat=41;have qQ:Hid (Y=⟨-1,[],0,1,0,0⟩):=zq (by rw[hY];simp[bJ,h41]);have e2:(c.toNat:Int)=41:=ae;exact aF8;have n41:(c.toNat==41)=false:=aC7.2 h41;have e2:¬((c.toNat:Int)=41):=ae;have e2':((c.toNat:Int)==41)=false:=aC7.2 e2;by_cases KP:c.toNat=34;have hY2:Y=sxTextGo [] q 1:=by rw[hY];simp[bJ,KP]
 have e3:(c.toNat:Int)=34:=ae;rw[<-hY2]at hTX;clear hY hY2 hNU hRU hDI hLE H5 hrl kN;obtain⟨k,ys,n,z,y,f⟩:=Y;have HW:=zq hTX;simp only[tkv,Zw]at HW;clear hTX;exact aFX;have n34:(c.toNat==34)=false:=aC7.2 KP;have e3:¬((c.toNat:Int)=34):=ae;have e3':((c.toNat:Int)==34)=false:=aC7.2 e3;obtain⟨dg,Oj⟩:∃dg,aY c=dg:=⟨_,rfl⟩
 rw[Oj]at hDI;have HD:=zq hDI;clear hTX hDI;by_cases hnum:c.toNat=45∨dg=true
 ·have hY2:Y=dL (c::q):=by rw[hY];rcases hnum with h|h;simp[bJ,h];simp[bJ,n40,n41,n34,Oj,h]
  rw[<-hY2]at hNU;clear hY hY2 hRU hLE H5 hrl kN Oj;obtain⟨k,ys,n,z,y,f⟩:=Y;have HW:=zq hNU;simp only[tkv,Zw]at HW;clear hNU;by_cases h45:c.toNat=45;have e4:(c.toNat:Int)=45:=ae;clear hnum;exact aFX;have e4:¬((c.toNat:Int)=45):=ae;have e4':((c.toNat:Int)==45)=false:=aC7.2 e4;obtain rfl:dg=true:=by rcases hnum with h|h;exact absurd h h45;exact h
  clear hnum;go_enter func183,ntmps183
  go_wp2_with (first|((with_reducible refine(HD.out _).mono ?_);rintro e w3 ⟨rfl,rfl⟩)|((with_reducible refine(HW.out _).mono ?_);rintro e w4 ⟨rfl,gy⟩;have B4:=B0.ev gy;have E4:=aV.trans gy;obtain⟨c0,c1,c2,c3,c4,c5,c6,c7⟩:=B4.cs;obtain⟨f0,f1,f2,f3,f4,f5,f6,f7⟩:=B4.fs))
  exact aHY
 have n45:(c.toNat==45)=false:=aC7.2 (λh=>hnum (.inl h));have e4:¬((c.toNat:Int)=45):=λh=>hnum (.inl ae);have e4':((c.toNat:Int)==45)=false:=aC7.2 e4;obtain rfl:dg=false:=by
  cases dg
  rfl;exact absurd (.inr rfl) hnum
 obtain⟨lt,hlt⟩:∃lt,bC c=lt:=⟨_,rfl⟩
 rw[hlt]at hLE;have IV:=zq hLE;clear hLE hNU hnum
 cases lt
 ·have qQ:Hid (Y=aW 12 0):=zq (by rw[hY];simp[bJ,n40,n41,n34,n45,Oj,hlt]);have HW:=λw1=>lX 12 0 w1;rw[show (((0:Nat):Int))=0 from rfl]at HW;have HW:=zq HW;clear hY hRU H5 hrl kN Oj hlt;go_enter func183,ntmps183
  go_wp2_with (first|((with_reducible refine(HD.out _).mono ?_);rintro e w3 ⟨rfl,rfl⟩)|((with_reducible refine(IV.out _).mono ?_);rintro e w3 ⟨rfl,rfl⟩)|((with_reducible refine(HW.out _).mono ?_);rintro e w4 ⟨rfl,gy⟩;have B4:=B0.ev gy;have E4:=aV.trans gy;obtain⟨c0,c1,c2,c3,c4,c5,c6,c7⟩:=B4.cs;obtain⟨f0,f1,f2,f3,f4,f5,f6,f7⟩:=B4.fs))
  exact aHG
 have hY2:Y=⟨2,(c::q).take (sxRun bC (c::q)),0,sxRun bC (c::q),0,0⟩:=by rw[hY];simp[bJ,n40,n41,n34,n45,Oj,hlt]
 generalize sxRun bC (c::q)=r at*;obtain⟨x,hx⟩:∃x:ByteArray,x=s0.extract 0 r:=⟨_,rfl⟩
 have hxs:s0.extract 0 r=x:=hx.symm;have lD:x.data.toList=(c::q).take r:=by rw[hx,H5]
 have hxz:x.size<=100000:=by
  have:x.data.toList.length=x.size:=by rw[aDK];rfl
  rw[<-this,lD,aDP];omega
 have qQ:Hid (Y=⟨2,x.data.toList,0,r,0,0⟩):=zq (by rw[hY2,lD]);have HCL:=zq (λw1=>adG x w1 hxz);have HRU:=zq hRU;clear hY hY2 hRU H5 Oj hlt lD hxz hx;go_enter func183,ntmps183
 go_wp2_with (first|((with_reducible refine(HD.out _).mono ?_);rintro e w3 ⟨rfl,rfl⟩)|((with_reducible refine(IV.out _).mono ?_);rintro e w3 ⟨rfl,rfl⟩)|((with_reducible refine(HRU.out _).mono ?_);rintro e w3 ⟨rfl,rfl⟩)|((with_reducible refine(HCL.out _).mono ?_);rintro e w4 ⟨rfl,gy⟩;have B4:=B0.ev gy;have E4:=aV.trans gy;obtain⟨c0,c1,c2,c3,c4,c5,c6,c7⟩:=B4.cs;obtain⟨f0,f1,f2,f3,f4,f5,f6,f7⟩:=B4.fs))
 exact aHG
inductive M where
 | mk (kind:Int) (s:By) (n:Int) (A:Option Addr) (cap:Nat) (kids:List M) (pos:Nat):M
def M.kind:M->Int
 | .mk k _ _ _ _ _ _=>k
def M.s:M->By
 | .mk _ s _ _ _ _ _=>s
def M.n:M->Int
 | .mk _ _ n _ _ _ _=>n
def M.A:M->Option Addr
 | .mk _ _ _ a _ _ _=>a
def M.cap:M->Nat
 | .mk _ _ _ _ c _ _=>c
def M.kids:M->List M
 | .mk _ _ _ _ _ l _=>l
def M.pos:M->Nat
 | .mk _ _ _ _ _ _ p=>p
mutual
def M.t:M->T
 | .mk k s n _ _ l p=>.mk k s n (M.ts l) p
def M.ts:List M->List T
 | []=>[]
 | m::l=>m.t::M.ts l
end
theorem M.vz:∀l:List M,M.ts l=l.map M.t
 | []=>by simp[M.ts]
 | m::l=>by simp[M.ts,M.vz l]
theorem M.yE(m:M):m.t=.mk m.kind m.s m.n (m.kids.map M.t) m.pos:=by
 cases m
 simp[M.t,M.vz,M.kind,M.s,M.n,M.kids,M.pos]
theorem M.dO(m:M):m.t.kids=m.kids.map M.t:=by rw[M.yE];rfl
theorem M.xm(m:M):m.t.kind=m.kind:=by rw[M.yE];rfl
theorem M.H6(m:M):m.t.pos=m.pos:=by rw[M.yE];rfl
def M.kv(m:M):au:=.slice m.A m.kids.length m.cap
def mc(m:M):List au:=[↑m.kind,↑m.s,↑m.n,m.kv,↑m.pos]
def mv(m:M):au:=.agg #[↑m.kind,↑m.s,↑m.n,m.kv,↑m.pos]
abbrev Ms:=Sl 5 mc
def j_(l:List M):List au:=l.flatMap mc
theorem kT(l:List M):(j_ l).length=l.length*5:=by
 induction l with
 | nil=>rfl
 | cons x l ih=>
  have:(j_ (x::l)).length=5+(j_ l).length:=by simp[j_,mc];omega
  rw[this,ih,aDh];omega
theorem og(l m:List M):j_ (l++m)=j_ l++j_ m:=by simp[j_]
theorem mY(m:M):j_ [m]=mc m:=by simp[j_]
theorem FD:∀(l:List M) (i:Nat) (x:M),l[i]?=some x->∀j u,(mc x)[j]?=some u->(j_ l)[i*5+j]?=some u
 | [],_,_,h,_,_,_=>by simp at h
 | y::l,0,x,h,j,u,hu=>by simp at h;subst h;have hj:j<5:=(aC6.1 hu).1;have e:j_ (y::l)=mc y++j_ l:=rfl;rw[e,aDH,aDt,aD9 (by simpa[mc] using hj)];exact hu
 | y::l,i+1,x,h,j,u,hu=>by have e:j_ (y::l)=mc y++j_ l:=rfl;have hl:(mc y).length=5:=rfl;rw[e,aEe (by rw[hl];omega),hl,show (i+1)*5+j-5=i*5+j by omega];exact FD l i x (by simpa using h) j u hu
theorem BZ(l:List M):∀u∈j_ l,u.oneCell'=true:=by intro u hu;obtain⟨x,_,hx⟩:=aEh.1 hu;simp[mc,M.kv]at hx;rcases hx with rfl|rfl|rfl|rfl|rfl<;>rfl
inductive Lies(b0:Nat)(K:List Nat)(w:ak):M->Prop
 | mk {kind:Int} {s:By} {n:Int} {A:Option Addr} {cap:Nat} {kids:List M} {pos:Nat}:Ms w A kids.length cap kids->(∀ad,A=some ad->b0<=ad.block/\ad.block<w.heap.size/\ad.block∉K)->(∀k∈kids,Lies b0 K w k)->
   Lies b0 K w (.mk kind s n A cap kids pos)
theorem Lies.ms{b0:Nat}{K:List Nat}{w:ak}{m:M}(h:Lies b0 K w m):Ms w m.A m.kids.length m.cap m.kids:=by
 cases h with
 | mk h1 h2 h3=>exact h1
theorem Lies.kid{b0:Nat}{K:List Nat}{w:ak}{m:M}(h:Lies b0 K w m):∀k∈m.kids,Lies b0 K w k:=by
 cases h with
 | mk h1 h2 h3=>exact h3
theorem aGd(h:U:=by
 induction h with
 | mk h1 h2 h3 ih=>
  refine .mk (h1.but hb λad e=>(h2 ad e).2.2) (λad e=>⟨(h2 ad e).1,aDf (h2 ad e).2.1 hb.size,λhm=>?_⟩) ih;rcases hs _ hm with h4|h4|h4;exact(h2 ad e).2.2 h4;have:=(h2 ad e).1;omega;have:=(h2 ad e).2.1;omega):U:=h
theorem Lies.move{b0:Nat}{K K':List Nat}{w w':ak}{m:M}(h:Lies b0 K w m)(hb:But K w w')(hs:∀x∈K',x∈K∨x<b0∨w.heap.size<=x):Lies b0 K' w' m:=by exact aGd
theorem Lies.ev{b0:Nat}{K:List Nat}{w w':ak}{m:M}(h:Lies b0 K w m)(hE:Ev w w'):Lies b0 K w' m:=h.move (But.aU hE) λ_ hx=>.inl hx
theorem aH2(h:U:=by
 induction h with
 | mk h1 h2 h3 ih=>exact .mk h1 (λad e=>⟨aDr hb (h2 ad e).1,(h2 ad e).2⟩) ih):U:=h
theorem Lies.low{b0 b1:Nat}{K:List Nat}{w:ak}{m:M}(h:Lies b1 K w m)(hb:b0<=b1):Lies b0 K w m:=by exact aH2
theorem Lies.less{b0:Nat}{K K':List Nat}{w:ak}{m:M}(h:Lies b0 K w m)(hs:∀x∈K',x∈K∨x<b0∨w.heap.size<=x):Lies b0 K' w m:=h.move (But.refl _ _) hs
def blk(v:au)(os:List M):List Nat:=foot v++os.flatMap λe=>foot e.kv
structure Opn(base:Nat)(w:ak)(v:au)(os:List M):Prop where
 own:w.ownsRow base 186 5 v os.length (j_ os)
 kid:∀e∈os,w.ownsRow base 186 5 e.kv e.kids.length (j_ e.kids)
 nd:(blk v os).Nodup
 lies:∀e∈os,∀m∈e.kids,Lies base (blk v os) w m
theorem ZB{K:List Nat}{w w':ak}{base:Nat}{e:TypeId}{size:Nat}{v:au}{n:Nat}{xs:List au}(h:w.ownsRow base e size v n xs)(hb:But K w w')(hn:∀g,v.ownBlock=some g->g∉K):w'.ownsRow base e size v n xs:=by exact aHk
theorem xu{v:au}{os:List M}{g:Nat}:g∈blk v os↔v.ownBlock=some g∨∃e∈os,e.kv.ownBlock=some g:=by unfold blk;simp[aG]
theorem Opn.range{base:Nat}{w:ak}{v:au}{os:List M}(h:Opn base w v os){g:Nat}(hg:g∈blk v os):base<=g/\g<w.heap.size:=by
 rcases xu.1 hg with h1|⟨e,he,h1⟩
 exact h.own.lt g h1;exact(h.kid e he).lt g h1
theorem Opn.ev{base:Nat}{w w':ak}{v:au}{os:List M}(h:Opn base w v os)(hE:Ev w w'):Opn base w' v os:=
 ⟨Qy h.own hE,λe he=>Qy (h.kid e he) hE,h.nd,λe he m hm=>(h.lies e he m hm).ev hE⟩
theorem Opn.at{base:Nat}{w:ak}{v:au}{os:List M}(h:Opn base w v os)(h0:os≠[]):∃g cap,v=.slice (some ⟨g,0,none⟩) os.length cap/\os.length<=cap/\cap<=9223372036854775807/\base<=g/\g<w.heap.size/\(∀i,w.frozen? ⟨g,i,none⟩=false)/\
  ∀i x,os[i]?=some x->w.cell? ⟨g,i*5,none⟩=some (.int .i64 x.kind)/\w.cell? ⟨g,i*5+1,none⟩=some (.string ⟨x.s.toArray⟩)/\w.cell? ⟨g,i*5+2,none⟩=some (.int .i64 x.n)/\w.cell? ⟨g,i*5+3,none⟩=some x.kv/\w.cell? ⟨g,i*5+4,none⟩=some (.int .i64 (x.pos:Int)):=by
 rcases h.own.2 with⟨_,hn⟩|⟨g,cap,cur,rfl,hg,hh,AU,hcm,hcs,ht⟩
 exact absurd (aDv hn) h0;refine⟨g,cap,rfl,AU,by simpa[maxLen] using hcm,hg,(aDa.1 hh).1,λi=>aFg hh i,λi x hx=>?_⟩;have hi:=(aC6.1 hx).1;have key:∀j u,(mc x)[j]?=some u->w.cell? ⟨g,i*5+j,none⟩=some u:=λj u hu=>by have hj:j<5:=(aC6.1 hu).1;rw[World.ownsRow.cellAt h.own (i*5+j) ae];exact FD os i x hx j u hu
 exact⟨key 0 _ rfl,key 1 _ rfl,key 2 _ rfl,key 3 _ rfl,key 4 _ rfl⟩
theorem Ms.cell{w:ak}{A:Option Addr}{n cap:Nat}{l:List M}(h:Ms w A n cap l){i:Nat}{x:M}(hx:l[i]?=some x):∃b off,A=some ⟨b,off,none⟩/\b<w.heap.size/\
  w.cell? ⟨b,off+i*5,none⟩=some ↑x.kind/\w.cell? ⟨b,off+i*5+1,none⟩=some ↑x.s/\w.cell? ⟨b,off+i*5+2,none⟩=some ↑x.n/\w.cell? ⟨b,off+i*5+3,none⟩=some x.kv/\w.cell? ⟨b,off+i*5+4,none⟩=some ↑x.pos:=by
 have hi:=(aC6.1 hx).1;have hl:=h.len;obtain⟨b,off,e,hlt,hc⟩:=h.rd ae;exact⟨b,off,e,hlt,hc i x hx 0 _ rfl,hc i x hx 1 _ rfl,hc i x hx 2 _ rfl,hc i x hx 3 _ rfl,hc i x hx 4 _ rfl⟩
theorem FH{w:ak}{base:Nat}{A:Option Addr}{n cap:Nat}{l:List M}(h:w.ownsRow base 186 5 (.slice A n cap) n (j_ l)):Ms w A n cap l:=by
 have hl:l.length=n:=by have:=h.1;rw[kT]at this;omega
 rcases h.2 with⟨hv,hn⟩|⟨g,c,cur,hv,hg,hh,AU,hcm,hcs,ht⟩
 exact aHF;injection hv with h1 h2 h3
 subst h1 h3;refine⟨hl,AU,by simpa[maxLen] using hcm,aj,λh0=>⟨g,0,rfl,(aDa.1 hh).1,λi x hx j u hu=>?_⟩⟩;have hi:=(aC6.1 hx).1;have hj:j<5:=(aC6.1 hu).1;have:=World.ownsRow.cellAt h (i*5+j) ae;rw[aDt,this];exact FD l i x hx j u hu
theorem Bv{base:Nat}{v:au}{os:List M}(w:ak)(h:Opn base w v os)(h0:os≠[]):
  Calls ax 229 #[v] w λe w'=>e=.returned (.bool (sxDone (os.map M.t)))/\w=w':=by
 obtain⟨g,cap,rfl,hle,hmx,_,hg,_,hc⟩:=h.at h0
 cases os with
 | nil=>exact absurd rfl h0
 | cons e os=>
  obtain⟨_,_,_,c3,_⟩:=hc 0 e rfl;have hk:=(FH (h.kid e (aC' ..))).le;have hk2:=(FH (h.kid e (aC' ..))).max;have HF:Hid (sxDone ((e::os).map M.t)=decide (0<e.kids.length)):=zq (by
   simp only[sxDone,aDe,M.dO];cases e.kids<;>simp)
  unfold M.kv at c3;generalize e.kids.length=n at*;simp only[aDH,aDt]at c3;obtain⟨q,hq⟩:∃q,q=(e::os).length:=⟨_,rfl⟩
  have BU:1<=q:=by rw[hq];simp
  rw[<-hq]at hle|-;have hD:decide (0<n)=decide ((0:Int)<(n:Int)):=decide_eq_decide.2 ae;have HD:=zq hD;clear hD hq hc h;go_enter func229,ntmps229;go_wp2;go_ret;exact⟨by rw[HF.out,HD.out];rfl,rfl⟩
instance ceC:Coe M (Array au):=⟨λm=>#[.int .i64 m.kind,.string ⟨m.s.toArray⟩,.int .i64 m.n,.slice m.A m.kids.length m.cap,.int .i64 (m.pos:Int)]⟩
instance ceD(m:M):CoeDep (M×Unit) (m,()) (Array au):=⟨#[.int .i64 m.kind,.string ⟨m.s.toArray⟩,.int .i64 m.n,.slice m.A m.kids.length m.cap]⟩
instance ceE(a b:M):CoeDep (M×M) (a,b) (Array au):=⟨#[.int .i64 a.kind,.string ⟨a.s.toArray⟩,.int .i64 a.n,.slice a.A a.kids.length a.cap,.int .i64 (a.pos:Int),.int .i64 b.kind,.string ⟨b.s.toArray⟩,.int .i64 b.n,.slice b.A b.kids.length b.cap,.int .i64 (b.pos:Int)]⟩
theorem Tryz.sJ:(Tryz.prog.info? 186).map (·.size)=some 5:=ah
theorem Bz{P:Program}{fn:Func}{p u1 u2:Tmp}{ty:TypeId}(h:fn.results=#[.cell p ty,.tmp u1,.tmp u2])(tmps:Array au)(w:ak)(g:Nat)(t:TypeId)(cs:Array au)(fr:Nat×Nat)(d:TypeDesc)
  (hp:tmps.getD p undef=.pointer ↑g) (hg:w.heap[g]?=some (.cells cs t fr))
  (hu:P.underlying ty=some d) (hd:(match d with|.struct _|.array _ _=>true|_=>false)=true) (hi:(P.info? ty).map (·.size)=some cs.size):
  (results fn tmps).run P w=.ok (.tuple #[.agg cs,tmps.getD u1 undef,tmps.getD u2 undef]) w:=by
 have hp':tmps[p]?.getD undef=.pointer ↑g:=by simpa using hp
 simp[results,h,hp',asAddr,run_loadVar_row w g t ty cs fr d hg hu hd hi]
def Uu(k n p:Int)(s:ByteArray)(v:au):Array au:=#[↑k,.string s,↑n,v,↑p]
theorem Ai{fn:Func}{p u1 u2:Tmp}(h:fn.results=#[.cell p 186,.tmp u1,.tmp u2])(tmps:Array au)(w:ak)(g:Nat)(k n q:Int)(s:ByteArray)(v:au)
  (hp:tmps.getD p undef=.pointer ↑g) (hg:w.heap[g]?=some (.cells (Uu k n q s v) 186 (0,0))):
  (results fn tmps).run ax w=.ok (.tuple #[.agg (Uu k n q s v),tmps.getD u1 undef,tmps.getD u2 undef]) w:=
 Bz h tmps w g 186 _ _ _ hp hg underlying186 rfl Tryz.sJ
def ku:M:=.mk 0 [] 0 none 0 [] 0
theorem Lies.zero(b0:Nat)(K:List Nat)(w:ak):Lies b0 K w ku:=.mk (Sl.nil_ w) (λ_ h=>by cases h) (λ_ h=>by cases h)
theorem adI{base:Nat}{v:au}{os:List M}(w:ak)(h:Opn base w v os)(h0:os≠[])(pos:Nat):
  Calls ax 182 #[v,↑pos] w λe w'=>∃m:M,e=.returned (.tuple #[mv m,.int .i64 (jX (os.map M.t) pos).2.1,.int .i64 ((jX (os.map M.t) pos).2.2:Int)])/\m.t=(jX (os.map M.t) pos).1/\Lies base (blk v os) w' m/\Ev w w':=by
 have HC:=λw1 (h1:Opn base w1 v os)=>Bv w1 h1 h0;have hL:∀e∈os,∀m∈e.kids,Lies base (blk v os) w m:=h.lies;generalize hK:blk v os=K at*;obtain⟨g,cap,rfl,hle,hmx,_,hg,_,hc⟩:=h.at h0
 cases os with
 | nil=>exact absurd rfl h0
 | cons e os=>
  have pF:=FH (h.kid e (aC' ..));obtain⟨_,_,_,c3,_⟩:=hc 0 e rfl;have hLe:=hL e (aC' ..);have aV:Ev w (w.alloc (.cells ↑Zz.a 186)):=Ev.alloc _ _;have HC:=zq (HC _ (h.ev aV));obtain⟨q,hq⟩:∃q,q=(e::os).length:=⟨_,rfl⟩
  have BU:1<=q:=by rw[hq];simp
  rw[<-hq]at hle HC|-;unfold M.kv at c3;simp only[aDH,aDt]at c3
  cases KF:e.kids with
  | nil=>
   have e1:sxDone ((e::os).map M.t)=false:=by simp[sxDone,M.dO,KF]
   have e2:jX ((e::os).map M.t) pos=(dQ,10,pos):=by simp[jX,M.dO,KF]
   rw[e2];rw[e1]at HC;clear e1 e2 hc hL hLe pF h KF c3 hq;go_enter func182,ntmps182
   go_wp2_with (first|((with_reducible refine HC.out.mono ?_);rintro x w1 ⟨rfl,rfl⟩))
   refine aFe (Ai rfl _ _ w.heap.size 0 0 0 ⟨#[]⟩ (.slice none 0 0) rfl (aFd w _)) rfl ?_;exact⟨ku,rfl,by simp[ku,M.t,M.ts,dQ],Lies.zero _ _ _,aV⟩
  | cons k0 ks=>
   have e1:sxDone ((e::os).map M.t)=true:=by simp[sxDone,M.dO,KF]
   have e2:jX ((e::os).map M.t) pos=(k0.t,0,0):=by simp[jX,M.dO,KF]
   rw[e2];rw[e1]at HC;have hlk:=hLe k0 (by rw[KF];exact aC' ..);rw[KF]at pF c3;obtain⟨b,off,hA,hb,d0,d1,d2,d3,d4⟩:=pF.cell (i:=0) (x:=k0) rfl;rw[hA]at c3;have uC:1<=(k0::ks).length:=aj;have hn2:=pF.le;have hn3:=pF.max;generalize (k0::ks).length=n at*;simp only[aDH,aDw]at d0 d1 d2 d3 d4;clear e1 e2 hc hL hLe pF h KF hq;obtain⟨kk,ks',kn,kA,kc,kl,kp⟩:=k0;simp only[M.kind,M.s,M.n,M.kv,M.A,M.kids,M.cap,M.pos]at d0 d1 d2 d3 d4;go_enter func182,ntmps182
   go_wp2_with (first|((with_reducible refine HC.out.mono ?_);rintro x w1 ⟨rfl,rfl⟩))
   refine aFe (Ai rfl _ _ w.heap.size kk kn kp ⟨ks'.toArray⟩ (.slice kA kl.length kc) rfl (aFd w _)) rfl ?_;exact⟨.mk kk ks' kn kA kc kl kp,rfl,rfl,hlk.ev aC,Ev.alloc _ _⟩
def jl(D:Bool)(q:Nat)(x:Tk):Int×Nat:=
 if !(x.why==0)&&!(D&&decide (0<x.fault)) then (x.why,x.fault)
 else if x.kind==-1&&q==1 then (12,0)
 else if !(x.kind==-1)&&D then (11,0)
 else if x.kind==1&&decide (12<q) then (14,0)
 else (0,0)
theorem aa3(os:List T)(x:Tk):iF os x=jl (sxDone os) os.length x:=rfl
theorem aG7(h:U:=by
 clear hJ;go_enter func184,ntmps184
 go_wp2_with (first|((with_reducible refine HC.out.mono ?_);rintro x w1 ⟨rfl,rfl⟩))
 go_ret2
 rw[HJ.out];exact⟨rfl,aV⟩):U:=h
theorem aFJ(h:U:=by subst hk;by_cases hq:q=1;subst hq;have HJ:Hid (J=(12,0)):=zq (by rw[hJ];simp[jl]);exact aG7;have q1:¬((q:Int)=1):=ae;have q1':((q:Int)==1)=false:=aC7.2 q1;have HJ:Hid (J=(0,0)):=zq (by rw[hJ];simp[jl,hq]);exact aG7):U:=h
theorem aGK(h:U:=by
 clear hJ;go_enter func184,ntmps184
 go_wp2_with (first|((with_reducible refine HC.out.mono ?_);rintro x w1 ⟨rfl,rfl⟩))
 go_quiet (fail)
 go_wp2
 go_ret2
 rw[HJ.out];exact⟨rfl,aV.trans (Ev.drewN _ _)⟩):U:=h
theorem adJ{base:Nat}{v:au}{os:List M}(w:ak)(h:Opn base w v os)(h0:os≠[])(x:Tk):
  Calls ax 184 #[v,tkv x] w λe w'=>e=.returned (.tuple #[.int .i64 (iF (os.map M.t) x).1,.int .i64 ((iF (os.map M.t) x).2:Int)])/\Ev w w':=by
 have aV:Ev w (w.alloc (.cells (Zw x) 255)):=Ev.alloc _ _;have HC:=Bv _ (h.ev aV) h0;obtain⟨g,cap,rfl,hle,hmx,_,hg,_,hc⟩:=h.at h0;rw[aa3,aC_];have BU:1<=os.length:=by
  cases os with
  | nil=>exact absurd rfl h0
  | cons e os=>simp
 generalize os.length=q at*;generalize sxDone (os.map M.t)=D at*;obtain⟨J,hJ⟩:∃J,J=jl D q x:=⟨_,rfl⟩
 rw[<-hJ];obtain⟨k,xs,n,z,y,f⟩:=x;unfold tkv Zw at*;simp only at HC aV;have HC:=zq HC;clear hc h;by_cases hy:y=0;subst hy
 cases D
 by_cases hk:k=-1;exact aFJ;have hk':(k==-1)=false:=aC7.2 hk;have an2:(k !=-1)=true:=aEk.2 hk;by_cases k1:k=1;subst k1;by_cases q12:12<q;have q2:(12:Int)<(q:Int):=ae;have HJ:Hid (J=(14,0)):=zq (by rw[hJ];simp[jl,q12]);exact aG7;have q2:¬((12:Int)<(q:Int)):=ae;have HJ:Hid (J=(0,0)):=zq (by rw[hJ];simp[jl,q12]);exact aG7;have k1':(k==1)=false:=aC7.2 k1;have HJ:Hid (J=(0,0)):=zq (by rw[hJ];simp[jl,hk,k1]);exact aG7;by_cases hk:k=-1;exact aFJ;have hk':(k==-1)=false:=aC7.2 hk;have an2:(k !=-1)=true:=aEk.2 hk;have HJ:Hid (J=(11,0)):=zq (by rw[hJ];simp[jl,hk]);exact aG7;have hy':(y==0)=false:=aC7.2 hy;have ayr:(y !=0)=true:=aEk.2 hy
 cases D
 have HJ:Hid (J=(y,f)):=zq (by rw[hJ];simp[jl,hy]);exact aGK;by_cases hf:0<f;have hf1:decide (0<f)=true:=aDE hf;by_cases hk:k=-1;subst hk;by_cases hq:q=1;subst hq;have HJ:Hid (J=(12,0)):=zq (by rw[hJ];simp[jl,hf]);exact aG7;have q1:¬((q:Int)=1):=ae;have q1':((q:Int)==1)=false:=aC7.2 q1;have HJ:Hid (J=(0,0)):=zq (by rw[hJ];simp[jl,hf,hq]);exact aG7;have hk':(k==-1)=false:=aC7.2 hk;have an2:(k !=-1)=true:=aEk.2 hk;have HJ:Hid (J=(11,0)):=zq (by rw[hJ];simp[jl,hf,hk]);exact aG7;have hf1:decide (0<f)=false:=aDB hf;have HJ:Hid (J=(y,f)):=zq (by rw[hJ];simp[jl,hy,hf]);exact aGK
def cl{α:Type}(enc:α->List au)(l:List α):List au:=l.flatMap enc
structure Enc{α:Type}(k:Nat)(enc:α->List au):Prop where
 pos:0<k
 len:∀x,(enc x).length=k
 one:∀x,∀u∈enc x,u.oneCell'=true
section
variable {α:Type} {k:Nat} {enc:α->List au}
theorem aba(l m:List α):cl enc (l++m)=cl enc l++cl enc m:=by simp[cl]
theorem pY(x:α)(l:List α):cl enc (x::l)=enc x++cl enc l:=rfl
theorem nz(E:Enc k enc)(l:List α):(cl enc l).length=l.length*k:=by
 induction l with
 | nil=>simp[cl]
 | cons x l ih=>rw[pY,aDd,E.len,ih,aDh,aEv,aEi,Nat.add_comm]
theorem adU(E:Enc k enc):∀(l:List α) (i:Nat) (x:α),l[i]?=some x->∀j u,(enc x)[j]?=some u->(cl enc l)[i*k+j]?=some u
 | [],_,_,h,_,_,_=>by simp at h
 | y::l,0,x,h,j,u,hu=>by simp at h;subst h;have hj:=(aC6.1 hu).1;rw[pY,aDH,aDt,aD9 hj];exact hu
 | y::l,i+1,x,h,j,u,hu=>by rw[pY,aEe (by rw[E.len,aEv];omega),E.len,show (i+1)*k+j-k=i*k+j by rw[aEv];omega];exact adU E l i x (by simpa using h) j u hu
theorem Jm(E:Enc k enc):∀(l:List α) (q:Nat) (u:au),(cl enc l)[q]?=some u->∃i j x,q=i*k+j/\l[i]?=some x/\(enc x)[j]?=some u
 | [],q,u,h=>by simp[cl]at h
 | y::l,q,u,h=>by rw[pY]at h;by_cases hq:q<k;rw[aD9 (by rw[E.len];exact hq)]at h;exact⟨0,q,y,ae,rfl,h⟩;rw[aEe (by rw[E.len];omega),E.len]at h;obtain⟨i,j,x,h1,h2,h3⟩:=Jm E l (q-k) u h;exact⟨i+1,j,x,by rw[aEv];omega,by simpa using h2,h3⟩
theorem adV(E:Enc k enc)(l:List α):∀u∈cl enc l,u.oneCell'=true:=by intro u hu;obtain⟨x,_,hx⟩:=aEh.1 hu;exact E.one x u hx
theorem adW(E:Enc k enc):∀(l:List α) (i j:Nat) (x x':α) (u:au),l[i]?=some x->j<k->enc x'=(enc x).set j u->(cl enc l).set (i*k+j) u=cl enc (l.set i x')
 | [],i,j,x,x',u,h,_,_=>by simp at h
 | y::l,0,j,x,x',u,h,hj,he=>by simp at h;subst h;rw[List.set_cons_zero,pY,pY,he,aDH,aDt,List.set_append_left _ _ (by rw[E.len];exact hj)]
 | y::l,i+1,j,x,x',u,h,hj,he=>by rw[List.set_cons_succ,pY,pY,List.set_append_right _ _ (by rw[E.len,aEv];omega),E.len,show (i+1)*k+j-k=i*k+j by rw[aEv];omega];rw[adW E l i j x x' u (by simpa using h) hj he]
theorem ZE(E:Enc k enc):∀(l:List α) (m:Nat),(cl enc l).take (m*k)=cl enc (l.take m)
 | [],m=>by simp[cl]
 | y::l,0=>by simp[cl]
 | y::l,m+1=>by rw[aDX,pY,pY,List.take_append,E.len,aDj (by rw[E.len,aEv];omega),show (m+1)*k-k=m*k by rw[aEv];omega,ZE E l m]
theorem H7{w:ak}{b:Nat}{cs:Array au}{T:TypeId}(i:Nat)(x:au)(h:w.heap[b]?=some (.cells cs T (0,0))):(w.setCell ⟨b,i,none⟩ x).heap[b]?=some (.cells (cs.setIfInBounds i x) T (0,0)):=by simp only[World.setCell,Array.getElem?_modify,if_pos];rw[h];rfl
def Ow(et:TypeId)(k:Nat)(enc:α->List au)(base:Nat)(w:ak)(v:au)(Z:List α):Prop:=w.ownsRow base et k v Z.length (cl enc Z)
variable {et:TypeId} {base:Nat} {w w':ak} {v:au} {Z:List α}
theorem Ow.nil_(w:ak):Ow et k enc base w ↑() ([]:List α):=aE_ _ _ _ _
theorem Ow.but{K:List Nat}(h:Ow et k enc base w v Z)(hb:But K w w')(hn:∀g,v.ownBlock=some g->g∉K):Ow et k enc base w' v Z:=by exact aHk
theorem Ow.ev(h:Ow et k enc base w v Z)(hE:Ev w w'):Ow et k enc base w' v Z:=Qy h hE
theorem Ow.lt(h:Ow et k enc base w v Z){g:Nat}(hg:v.ownBlock=some g):base<=g/\g<w.heap.size:=World.ownsRow.lt h g hg
theorem Ow.form(E:Enc k enc)(h:Ow et k enc base w v Z):∃A cap,v=.slice A Z.length cap/\Sl k enc w A Z.length cap Z/\∀ad,A=some ad->v.ownBlock=some ad.block/\base<=ad.block/\ad.block<w.heap.size/\ad=⟨ad.block,0,none⟩/\∀i,w.frozen? ⟨ad.block,i,none⟩=false:=by
 have hlt:=λg hg=>World.ownsRow.lt h g hg;rcases h.2 with⟨rfl,hn⟩|⟨g,cap,cur,rfl,hb,hg,AU,hcm,hcs,ht⟩
 have hl:Z=[]:=aDv hn;subst hl;exact⟨none,0,rfl,Sl.nil_ w,aj⟩;refine⟨_,_,rfl,⟨rfl,AU,by simpa[maxLen] using hcm,aj,λh0=>⟨g,0,rfl,(aDa.1 hg).1,λi x hx j u hu=>?_⟩⟩,?_⟩;have hi:=(aC6.1 hx).1;have hj:=(aC6.1 hu).1;rw[E.len]at hj;have:=World.ownsRow.cellAt h (i*k+j) (by have:(i+1)*k<=Z.length*k:=aEW _ hi;rw[aEv]at this;omega);rw[aDt,this];exact adU E Z i x hx j u hu;rintro ad ⟨⟩;exact⟨rfl,(hlt g rfl).1,(hlt g rfl).2,rfl,λi=>aFg hg i⟩
theorem Ow.made(E:Enc k enc)(w:ak)(l:List α)(cs:Array au)(h:cs.toList=cl enc l)(hb:base<=w.heap.size)(hl:l.length<=1000000):Ow et k enc base (w.alloc (.cells cs et)) (.slice ↑w l.length l.length) l:=by
 have hs:cs.size=l.length*k:=by rw[<-aDK,h,nz E]
 refine⟨nz E l,.inr ⟨w.heap.size,l.length,cs,rfl,hb,aFd w _,aC8 _,by unfold maxLen;omega,hs,?_⟩⟩;rw[h,aDj (by rw[nz E];exact aC8 _)]
theorem Ow.to(E:Enc k enc)(h:Ow et k enc base w v Z){A:Option Addr}{n cap:Nat}(hv:v=.slice A n cap)(m:Nat)(hm:m<=Z.length):Ow et k enc base w (.slice A m cap) (Z.take m):=by
 have hl:(Z.take m).length=m:=by rw[aDP];omega
 rcases h.2 with⟨h1,hn⟩|⟨g,cap',cur,h1,hb,hg,AU,hcm,hcs,ht⟩
 rw[hv]at h1;injection h1 with h1 h2 h3
 subst h1 h3;have:m=0:=ae;subst this;exact aE_ _ _ _ _;rw[hv]at h1;injection h1 with h1 h2 h3
 subst h1 h3;refine⟨nz E _,.inr ⟨g,cap,cur,by rw[hl],hb,hg,by rw[hl];omega,hcm,hcs,?_⟩⟩;rw[hl,<-ZE E,<-ht,List.take_take];congr 1;exact(Nat.min_eq_left (aEW _ hm)).symm
theorem Ow.set(E:Enc k enc){g n cap:Nat}(h:Ow et k enc base w (.slice ↑g n cap) Z){i j:Nat}{x x':α}{u:au}(hx:Z[i]?=some x)(hj:j<k)(he:enc x'=(enc x).set j u):
  Ow et k enc base (w.setCell ⟨g,i*k+j,none⟩ u) (.slice ↑g n cap) (Z.set i x'):=by
 rcases h.2 with⟨h1,hn⟩|⟨g',cap',cur,h1,hb,hg,AU,hcm,hcs,ht⟩
 cases h1
 injection h1 with h1 h2 h3
 injection h1 with h1
 injection h1 with h1 _ _
 subst h1 h3;refine⟨nz E _,.inr ⟨g,cap,_,by rw[List.length_set,h2],hb,H7 _ _ hg,by rw[List.length_set];exact AU,hcm,by simpa using hcs,?_⟩⟩;rw[List.length_set,<-adW E Z i j x x' u hx hj he,<-ht,Array.toList_setIfInBounds,List.take_set]
theorem aHZ(h:U:=by obtain rfl:=aDp e;have:=hc i' x hx j' u hxu;rw[aE9];rwa [show off+i'*k+j'=off+(i'*k+j') by omega]at this):U:=h
theorem ja{P:Program}(E:Enc k enc)(T ty:TypeId)(ht:P.underlying T=some (.slice et)){zero:au}{bytes:Nat}(hi:(P.info? et).map (λi=>(i.zero,i.size,i.bytes))=some (some zero,k,bytes))(hz:zero.cells.size=k)
  (hown:Ow et k enc base w v Z) (A:Option Addr) (m c:Nat) (l:List α) (hB:Sl k enc w A m c l) (hbytes:(Z.length+l.length)*bytes<=140737488355328) (hsm:Z.length+l.length<=1000000000) (hbase:base<=w.heap.size):
  ∃v' w',(Builtin.append_ #[T,T] ty #[v,.slice A m c]).run P w=.ok v' w'/\Ow et k enc base w' v' (Z++l)/\But (foot v) w w'/\dE w v v'/\(v'.ownBlock=v.ownBlock∨v'.ownBlock=some w.heap.size):=by
 obtain⟨i,uj,hz',hsz,hby⟩:=aE' hi;have hl:=hB.len
 cases A with
 | none=>
  obtain⟨h0,h1⟩:=hB.nil rfl;subst h0 h1;have hnil:l=[]:=aDv hl;subst hnil;exact⟨v,w,run_append_owned_none (P:=P) (w:=w) base T ty et i k ht uj v _ _ hown,by simpa using hown,But.refl _ _,dE.refl _ _,.inl rfl⟩
 | some ad=>
  have hcells:∀j u,(cl enc l)[j]?=some u->w.cell? (ad.add j)=some u:=by intro q u hu;obtain⟨i',j',x,rfl,hx,hxu⟩:=Jm E l q u hu;have hq:=(aC6.1 hx).1;obtain⟨b,off,e,_,hc⟩:=hB.rd ae;exact aHZ
  obtain⟨v',w',hr',h1,h2,_,h4⟩:=run_append_own_at (P:=P) w base T ty et i zero k bytes ht uj hz' hsz hby hz E.pos v Z.length (cl enc Z) hown ad m c (cl enc l) (by rw[nz E,hl]) hcells (adV E l) (by unfold maxLen;omega) (by rw[<-hl];exact hbytes) hbase;have Dv:But (foot v) w w':=But.grown h2 (λg hg=>aG.2 hg);have ag9:dE w v v':=λg hg=>by rcases h4 with h4|h4;exact .inl (h4▸hg);rw[h4]at hg;simp at hg;exact .inr ae
  exact⟨v',w',hr',by unfold Ow;rw[aba,aDd,hl];exact h1,Dv,ag9,h4⟩
def uG(et:TypeId)(k:Nat)(enc:α->List au)(base:Nat)(w:ak)(v:au)(Z':List α)(v':au)(w':ak):Prop:=
 Ow et k enc base w' v' Z'/\But (foot v) w w'/\dE w v v'
theorem aQ{P:Program}{ops:Array Oper}{rest:List Oper}{o:Oper}{a:Act}{Q:Exit->Act->ak->Prop}(hgd:o.guard=none)(T:TypeId)(s x:Operand)
  (ho:o.op=.call {callee:=.builtin .append,args:=#[s,x],argTypes:=#[T,T]}) (E:Enc k enc)
  (ht:P.underlying T=some (.slice et)) {zero:au} {bytes:Nat} (hi:(P.info? et).map (λi=>(i.zero,i.size,i.bytes))=some (some zero,k,bytes)) (hz:zero.cells.size=k)
  (hs:a.eval s=v) (hown:Ow et k enc base w v Z) (A:Option Addr) (m c:Nat) (l:List α) (hx:a.eval x=.slice A m c) (hB:Sl k enc w A m c l)
  (hbytes:(Z.length+l.length)*bytes<=140737488355328) (hsm:Z.length+l.length<=1000000000) (hbase:base<=w.heap.size)
  (h:∀v' w',uG et k enc base w v (Z++l) v' w'->wpList P ops Q rest (a.put o.dst v') w'):wpList P ops Q (o::rest) a w:=by
 refine wpList_plain hgd λK hK=>?_;obtain⟨v',w',hr,h2,h3,h4,_⟩:=ja (P:=P) E T o.type ht hi hz hown A m c l hB hbytes hsm hbase;unfold Oper.wp execOp;simp only[ho,resolve,invoke,builtin,aFa,aFb,aFc,aD1,aDe,aDu,hs,hx,hr];exact hK _ _ (h v' w' ⟨h2,h3,h4⟩)
theorem Sl.one(E:Enc k enc)(w:ak)(x:α)(cs:Array au)(h:cs.toList=enc x):Sl k enc (w.alloc (.cells cs et)) ↑w 1 1 [x]:=
 ⟨rfl,aC8 _,ae,aj,λ_=>⟨w.heap.size,0,rfl,aj,λi y hy j u hu=>by
  have hi:i=0:=by have:=(aC6.1 hy).1;simp at this;omega
  subst hi;simp at hy;subst hy;rw[aFf (aFd w _),aDH,aDt];rw[<-h]at hu;simpa using hu⟩⟩
end
def OwP(Pv:au->Prop)(w:ak)(v:au):Prop:=∀g,v.ownBlock=some g->∀cs T q,w.heap[g]?=some (.cells cs T q)->∀u∈cs.toList,Pv u
theorem OwP.none_(Pv:au->Prop)(w:ak)(n c:Nat):OwP Pv w (.slice none n c):=λg hg=>by simp[Value.ownBlock]at hg
theorem Ql{Pv:au->Prop}(z:Array au)(n:Nat)(h:∀u∈z.toList,Pv u):∀u∈(Builtin.zeroCells z n).toList,Pv u:=λu hu=>by
 unfold Builtin.zeroCells at hu;rw[Array.toList_map]at hu;obtain⟨j,hj,rfl⟩:=aDz.1 hu;have hs:0<z.size:=by
  have h1:j<n*z.size:=by simpa using hj
  rcases Nat.eq_zero_or_pos z.size with h0|h0;rw[h0]at h1;omega;exact h0
 have hlt:=Nat.mod_lt j hs;refine h _ ?_;rw[getElem!_pos z (j % z.size) hlt];exact Array.mem_toList_iff.2 (Array.getElem_mem hlt)
theorem Jc{P:Program}(Pv:au->Prop)(base:Nat)(T ty et:TypeId)(i:TypeInfo)(z:au)(ht:P.underlying T=some (.slice et))(hi:P.info? et=some i)(hz:i.zero=some z)
  (hzs:z.cells.size=i.size) (v:au) (n:Nat) (xs:List au) {w:ak} (hown:w.ownsRow base et i.size v n xs)
  (a:Addr) (m c:Nat) (news:List au) (hl:news.length=m*i.size) (hnews:∀j u,news[j]?=some u->w.cell? (a.add j)=some u) (h1:∀u∈news,u.oneCell'=true)
  (h63:n+m<=maxLen) (hbytes:(n+m)*i.bytes<=140737488355328) (hm:0<m)
  (hzp:∀u∈z.cells.toList,Pv u) (hnp:∀u∈news,Pv u) (hold:OwP Pv w v) {v':au} {w':ak} (hr:(Builtin.append_ #[T,T] ty #[v,.slice (some a) m c]).run P w=.ok v' w'):OwP Pv w' v':=by
 have hsmall:n+m<=9223372036854775807:=by simp only[maxLen]at h63;omega
 rcases hown.2 with⟨rfl,rfl⟩|⟨g,cap,cur,rfl,hbg,hg,AU,hcm,hcs,htake⟩
 have h2:=run_append_nil (P:=P) w T ty et i z ht hi hz a m c news hl hnews hm ae (by have hb:=hbytes;simp only[aDt]at hb;omega);rw[h2]at hr;injection hr with e1 e2
 subst e1 e2;intro g hg cs T' q hb u hu;simp only[Value.ownBlock,aEK]at hg;subst hg;have hb:=aDp ((aFd w.drew _).symm.trans hb);injection hb with hb _ _
 subst hb;rw[Array.toList_append]at hu;rcases aDm.1 hu with hu|hu;exact hnp u hu;exact Ql _ _ hzp u hu;have hpc:∀u∈cur.toList,Pv u:=hold g rfl _ _ _ hg;by_cases hroom:n+m<=cap;have hfit:n*i.size+news.length<=cur.size:=by rw[hl,hcs,<-aEv];exact aEW _ hroom
 have h2:=run_append_room (P:=P) w T ty et i ht hi g n cap cur hg a m c news hl hnews h1 hroom hfit;rw[h2]at hr;injection hr with e1 e2
 subst e1 e2;intro g' hg' cs T' q hb u hu;simp only[Value.ownBlock,aEK]at hg';subst hg';rw[setRow_heap w g cur _ et _ hg]at hb;injection hb with hb
 injection hb with hb _ _
 subst hb;rcases aDm.1 hu with hu|hu;rcases aDm.1 hu with hu|hu;exact hpc u (aD2 hu);exact hnp u hu;exact hpc u (aEm hu);have holds:∀j u,xs[j]?=some u->w.cell? ((⟨g,0,none⟩:Addr).add j)=some u:=hown.cells (g:=g) rfl;have h2:=run_append_grow (P:=P) w T ty et i z ht hi hz ⟨g,0,none⟩ n cap xs hown.1 holds a m c news hl hnews ae ae (growslice_fits ae hbytes);rw[h2]at hr;injection hr with e1 e2
 subst e1 e2;intro g' hg' cs T' q hb u hu;simp only[Value.ownBlock,aEK]at hg';subst hg';have hb:=aDp ((aFd w.drew _).symm.trans hb);injection hb with hb _ _
 subst hb;rw[Array.toList_append,Array.toList_append]at hu;rcases aDm.1 hu with hu|hu;rcases aDm.1 hu with hu|hu;exact hpc u (by have h3:u∈cur.toList.take (n*i.size):=(by rw[htake];exact hu);exact aD2 h3)
 exact hnp u hu;exact Ql _ _ hzp u hu
theorem al9{α:Type}{enc:α->List au}:∀{l:List α} {u:au},u∈cl enc l->∃x∈l,u∈enc x:=by intro l u hu;unfold cl at hu;obtain⟨x,hx,h⟩:=aEh.1 hu;exact⟨x,hx,h⟩
theorem EC{α:Type}{k:Nat}{enc:α->List au}{et:TypeId}{base:Nat}{w:ak}{v:au}{Z:List α}{P:Program}{ops:Array Oper}{rest:List Oper}{o:Oper}{act:Act}{Q:Exit->Act->ak->Prop}(Pv:au->Prop)(hgd:o.guard=none)(T:TypeId)(s x:Operand)
  (ho:o.op=.call {callee:=.builtin .append,args:=#[s,x],argTypes:=#[T,T]}) (E:Enc k enc)
  (ht:P.underlying T=some (.slice et)) {zero:au} {bytes:Nat} (hi:(P.info? et).map (λi=>(i.zero,i.size,i.bytes))=some (some zero,k,bytes)) (hz:zero.cells.size=k)
  (hs:act.eval s=v) (hown:Ow et k enc base w v Z) (A:Option Addr) (m c:Nat) (l:List α) (hx:act.eval x=.slice A m c) (hB:Sl k enc w A m c l)
  (hbytes:(Z.length+l.length)*bytes<=140737488355328) (hsm:Z.length+l.length<=1000000000) (hbase:base<=w.heap.size)
  (hm:0<m) (hzp:∀u∈zero.cells.toList,Pv u) (hnp:∀x∈l,∀u∈enc x,Pv u) (hold:OwP Pv w v)
  (h:∀v' w',uG et k enc base w v (Z++l) v' w'/\OwP Pv w' v'->wpList P ops Q rest (act.put o.dst v') w'):wpList P ops Q (o::rest) act w:=by
 refine wpList_plain hgd λK hK=>?_;obtain⟨v',w',hr,h2,h3,h4,_⟩:=ja (P:=P) E T o.type ht hi hz hown A m c l hB hbytes hsm hbase;obtain⟨i,uj,hz',hsz,hby⟩:=aE' hi;have hl:=hB.len;obtain⟨b,off,e,_,hc⟩:=hB.rd hm;have hcells:∀j u,(cl enc l)[j]?=some u->w.cell? ((⟨b,off,none⟩:Addr).add j)=some u:=by intro q u hu;obtain⟨i',j',x,rfl,hx,hxu⟩:=Jm E l q u hu;have:=hc i' x hx j' u hxu;rw[aE9];rwa [show off+i'*k+j'=off+(i'*k+j') by omega]at this
 subst e;have hp:=Jc (P:=P) Pv base T o.type et i zero ht uj hz' (by rw[hz,hsz]) v Z.length (cl enc Z) (by rw[hsz];exact hown) ⟨b,off,none⟩ m c (cl enc l) (by rw[nz E,hl,hsz]) hcells (adV E l) (by unfold maxLen;omega) (by rw[<-hl,hby];exact hbytes) hm hzp (λu hu=>by obtain⟨x,hx,h⟩:=al9 hu;exact hnp x hx u h) hold hr;unfold Oper.wp execOp;simp only[ho,resolve,invoke,builtin,aFa,aFb,aFc,aD1,aDe,aDu,hs,hx,hr];exact hK _ _ (h v' w' ⟨⟨h2,h3,h4⟩,hp⟩)
end Go.Proofs.YtbgmhhfjkkfhpaaGreatDoor
