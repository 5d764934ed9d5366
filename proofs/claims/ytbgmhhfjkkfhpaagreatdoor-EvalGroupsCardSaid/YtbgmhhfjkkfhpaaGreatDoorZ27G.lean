import Derived.Test.YtbgmhhfjkkfhpaaGreatDoorZ23G
set_option linter.unusedVariables false
set_option maxRecDepth 100000
set_option maxHeartbeats 64000000
namespace Go.Proofs.YtbgmhhfjkkfhpaaGreatDoor
open Go.RowKit
open Go renaming World → ak
open Go renaming Value → au
open Go.Proofs.Tryz renaming prog → ax
theorem yA(d:Array By)(x:By):∀m,x∈Lib.compactUpTo d m↔∃j,j<m/\d[j]! =x
 | 0=>by simp[Lib.compactUpTo]
 | m+1=>by
  rw[Lib.compactUpTo_succ,aDm,yA d x m];constructor;rintro (⟨j,hj,e⟩|h);exact⟨j,ae,e⟩;split at h;simp at h;exact⟨m,ae,h.symm⟩;simp at h;rintro⟨j,hj,e⟩;by_cases Zy:j<m;exact .inl ⟨j,Zy,e⟩;obtain rfl:j=m:=ae
  cases hk:Lib.keeps d j with
  | true=>right;simp[e]
  | false=>
   left;unfold Lib.keeps at hk;simp only[decide_eq_false_iff_not,not_or,Decidable.not_not]at hk;exact⟨j-1,ae,by rw[<-hk.2];exact e⟩
theorem mem_compact(zs:List By)(x:By):x∈Lib.compact zs↔x∈zs:=by unfold Lib.compact;rw[yA];constructor;rintro⟨j,hj,e⟩;rw[getElem!_pos _ _ (by simpa using hj)]at e;rw[<-e];simp;intro h;obtain⟨j,hj,e⟩:=List.mem_iff_getElem.1 h;exact⟨j,hj,by rw[getElem!_pos _ _ (by simpa using hj)];simpa using e⟩
theorem LX(zs:List By):(Lib.compact zs).length<=zs.length:=by unfold Lib.compact Lib.compactUpTo;rw[aC_];exact aDr (List.length_filter_le _ _) aj
def sc(x:By):List au:=[↑x]
abbrev Ss:=Sl 1 sc
theorem qU:Enc 1 sc:=⟨ae,λ_=>rfl,λx u hu=>by
 simp[sc]at hu;rw[hu];rfl⟩
theorem ZN(Z:List By):cl sc Z=Z.map encStr:=by
 induction Z with
 | nil=>rfl
 | cons x l ih=>unfold cl at ih|-;rw[aEp,ih];rfl
theorem Tryz.Rj:(Tryz.prog.info? 9).map (λi=>(i.zero,i.size,i.bytes))=some (some (.string ⟨#[]⟩),1,16):=ah
def nG(Z:List By):List By:=Z.mergeSort λx y=>decide (x<=y)
theorem ahM{w:ak}{base g n cap:Nat}{Z:List By}(h:Ow 9 1 sc base w (.slice ↑g n cap) Z)(hz:Z.length<=1000000000):
  Calls ax 46 #[.slice ↑g n cap] w λe w'=>e=.returned (.tuple #[])/\Ow 9 1 sc base w' (.slice ↑g n cap) (nG Z)/\But [g] w w':=by
 have hh:=h;rcases h.2 with⟨h1,_⟩|⟨g',cap',cur,e,hbase,hb,h1,h2,h3,h4⟩
 cases h1
 injection e with e1 e2 e3
 injection e1 with e1
 injection e1 with e1 _ _
 subst e1 e2 e3;refine(Tryz.slices_Sort_string g 0 cap Z w (holds_of_block hb (by rw[<-ZN];simpa using h4)) (aDa.1 hb).1 ae).mono ?_;rintro e w' ⟨rfl,q,os,rfl⟩;have hl:(nG Z).length=Z.length:=by unfold nG;simp
 have:=ownsRow_sorted (n:=q) (os:=os) (ts:=nG Z) (ss:=Z) hl hbase hb h1 h2 h3;refine⟨rfl,?_,But.grown (grownBy_sorted _) aj⟩;unfold Ow;rw[hl,ZN];exact this
theorem XV{w:ak}{base g n cap:Nat}{Z:List By}(h:Ow 9 1 sc base w (.slice ↑g n cap) Z)(hz:Z.length<=1000000000):
  Calls ax 47 #[.slice ↑g n cap] w λe w'=>e=.returned (.slice ↑g (Lib.compact Z).length cap)/\Ow 9 1 sc base w' (.slice ↑g (Lib.compact Z).length cap) (Lib.compact Z)/\But [g] w w':=by
 rcases h.2 with⟨h1,_⟩|⟨g',cap',cur,e,hbase,hb,h1,h2,h3,h4⟩
 cases h1
 injection e with e1 e2 e3
 injection e1 with e1
 injection e1 with e1 _ _
 subst e1 e2 e3;refine(Tryz.slices_Compact_string g 0 cap Z w (holds_of_block hb (by rw[<-ZN];simpa using h4)) ae h1).mono ?_;rintro e w' ⟨rfl,q,rfl⟩;have hcl:=LX Z;have hl:(Lib.compact Z++List.replicate (Z.length-(Lib.compact Z).length) []).length=Z.length:=by rw[aDd,List.length_replicate];omega
 have h5:=ownsRow_sorted (n:=q) (os:=#[]) (ts:=Lib.compact Z++List.replicate (Z.length-(Lib.compact Z).length) []) (ss:=Z) hl hbase hb h1 h2 h3;have h6:=grownBy_sorted (w:=w) (g:=g) (n:=q) (os:=#[]) (Lib.compact Z++List.replicate (Z.length-(Lib.compact Z).length) []).toArray;rw[Sort.grow_empty]at h5 h6;refine⟨rfl,?_,But.grown h6 aj⟩;have h7:Ow 9 1 sc base (Sort.putRow encStr (Sort.ahead w q) g 0 (Lib.compact Z++List.replicate (Z.length-(Lib.compact Z).length) []).toArray) (.slice ↑g Z.length cap) (Lib.compact Z++List.replicate (Z.length-(Lib.compact Z).length) []):=by unfold Ow;rw[hl,ZN];exact h5
 have h8:=h7.to qU rfl (Lib.compact Z).length (by rw[hl];exact hcl);rwa [aEY]at h8
structure ahN(w0:ak)(v:au)(ns:List By)(w:ak):Prop where
 own:Ow 9 1 sc w0.heap.size w v ns
 ev:Ev w0 w
theorem Ss.cell2{w:ak}{A:Option Addr}{n cap:Nat}{l:List By}(h:Ss w A n cap l){i:Nat}{x:By}(hx:l[i]?=some x):∃b off,A=some ⟨b,off,none⟩/\b<w.heap.size/\w.cell? ⟨b,off+i,none⟩=some ↑x:=by have hi:=(aC6.1 hx).1;have hl:=h.len;obtain⟨b,off,e,hlt,hc⟩:=h.rd ae;have:=hc i x hx 0 _ rfl;rw[aED,aDw]at this;exact⟨b,off,e,hlt,this⟩
def yj(l:List By):Prop:=l.Pairwise λx y=>x<=y/\x≠y
theorem BM:∀(l m:List By),yj l->yj m->(∀x,x∈l↔x∈m)->l=m
 | [],[],_,_,_=>rfl
 | [],b::m,_,_,h=>by have:=(h b).2 (aC' ..);cases this
 | a::l,[],_,_,h=>by have:=(h a).1 (aC' ..);cases this
 | a::l,b::m,h1,h2,h=>by
  unfold yj at h1 h2;rw[aDQ]at h1 h2;have hab:a=b:=by rcases aDg.1 ((h a).1 (aC' ..)) with e|e;exact e;rcases aDg.1 ((h b).2 (aC' ..)) with e2|e2;exact e2.symm;exact List.le_antisymm (h1.1 b e2).1 (h2.1 a e).1
  subst hab;congr 1;refine BM l m h1.2 h2.2 λx=>?_;constructor;intro hx;rcases aDg.1 ((h x).1 (aDc _ hx)) with e|e;exact absurd e.symm (h1.1 x hx).2;exact e;intro hx;rcases aDg.1 ((h x).2 (aDc _ hx)) with e|e;exact absurd e.symm (h2.1 x hx).2;exact e
theorem Td(l:List By):(nG l).Pairwise λx y=>x<=y:=by
 unfold nG;have h:=List.pairwise_mergeSort (le:=λ(x y:By)=>decide (x<=y)) (λa b c h1 h2=>by
  simp only[aDV]at h1 h2|-;exact List.le_trans h1 h2) (λa b=>by
  simp only[aDC,aDV];exact List.le_total a b) l
 exact h.imp λ{a b} h=>aEq h
theorem NG(zs:List By)(h:zs.Pairwise λx y=>x<=y):yj (Lib.compact zs):=by
 unfold yj Lib.compact Lib.compactUpTo;rw[List.pairwise_map];have hp:((List.range zs.length).filter (Lib.keeps zs.toArray)).Pairwise (·<·):=List.Pairwise.filter _ List.pairwise_lt_range;refine hp.imp_of_mem ?_;intro i j hi hj qN;rw[List.mem_filter,aDN]at hi hj;have hat:∀(p q:Nat),p<=q->q<zs.length->zs.toArray[p]!<=zs.toArray[q]!:=λp q WB hq=>by rw[getElem!_pos zs.toArray p (by simp;omega),getElem!_pos zs.toArray q (by simpa using hq)];rcases Nat.lt_or_ge p q with h1|h1;have:=(aEV.1 h) p q ae hq h1;simpa using this;obtain rfl:p=q:=ae;exact List.le_refl _
 have hk:=hj.2;unfold Lib.keeps at hk;have hk2:zs.toArray[j]!≠zs.toArray[j-1]!:=by rcases aEq hk with h1|h1;omega;exact h1
 refine⟨hat i j ae hj.1,λe=>hk2 ?_⟩;refine List.le_antisymm ?_ (hat (j-1) j ae hj.1);rw[<-e];exact hat i (j-1) ae ae
theorem acv(l:List By)(x:By):x∈nG l↔x∈l:=by unfold nG;exact List.mem_mergeSort
theorem Jd{l m:List By}(h:∀x,x∈l↔x∈m)(hm:yj m):Lib.compact (nG l)=m:=
 BM _ _ (NG _ (Td l)) hm λx=>by rw[mem_compact,acv,h]
end Go.Proofs.YtbgmhhfjkkfhpaaGreatDoor
