import Derived.Test.YtinlmmaokphhbaaGreatDoorM1
import Derived.Test.YtinlmmaokphhbaaGreatDoorM3
import Derived.Lib.SlicesCompact
import Derived.Lib.RowBridge
import Derived.Test.YtinlmmaokphhbaaGreatDoorTLib
import Derived.Shelf.Slices.In.SortAlone
import Derived.Shelf.Slices.In.SortNone
import Derived.Shelf.Slices.CompactI
import Derived.Sort.OwnSortedInts
import Derived.Lib.OwnBridge
import Derived.Deep.RegionHeld3
import Derived.Deep.QuietTactic
import Derived.BigQuiet
namespace Go.Proofs.YtinlmmaokphhbaaGreatDoor
set_option maxHeartbeats 4000000
set_option maxRecDepth 100000
open Go.RowKit Go.Shelf Go.Sort
set_option linter.unusedVariables false
open Lib(hid)
open Go.Proofs.Tryz
open _root_.List renaming length_append→Qa,take_length→Qb,take_zero→Qc,mem_append→Qd,append_nil→Qe,take_succ_eq_append_getElem→Qf,pairwise_singleton→Qg,getElem_mem→Qh,map_append→Qi,mem_singleton→Qj,mem_cons_self→Qk,append_assoc→Ql,eq_nil_of_length_eq_zero→Qm,length_take→Qn,length_mergeSort→Qo,eq_nil_or_concat→Qp,mem_cons_of_mem→Qq,take_append_drop→Qr,concat_eq_append→Qs,getElem_of_mem→Qt,take→Qu,nil_append→Qv
open Go.Value renaming slice→Qw,int→Qx,ownBlock→Qy,oneCell'→Qz
open Go.RowKit.Below renaming refl→QA,heap_alloc→QB,heap_setCell→QC
open _root_.Nat renaming lt_of_lt_of_le→QD,zero_add→QE,zero_le→QF
open Go.World renaming block_lt_of_cell?→QG,cell?_alloc_lt→QH,ownsRow_lit→QI,ownsRow_nil→QJ,setCell→QK
open Go.Lib renaming compact→QL,compactUpTo→QM,compact_length_le→QN
open Go renaming bodyPost_ret→QO,results→QP,info_parts→QQ
open Go.Sort renaming ahead→QR
theorem Zfo{n:Nat}:n≤n:=Nat.le_refl n
theorem Zph{a b c:World}(x:Hid (Below a.heap.size a b))(y:Below b.heap.size b c):Below a.heap.size a c:=x.out.trans (y.mono x.out.size)
theorem Zc9:(prog.info? 27).map (fun i=>(i.zero,i.size,i.bytes))=some (some (.agg #[.int .i64 0,.int .i64 0,.slice none 0 0]),3,40):=by kernel_rfl
theorem Zl {w:World}{base:Nat}{e:TypeId}{size:Nat}{v:Value}{n:Nat}{xs:List Value}(h:w.ownsRow base e size v n xs):∃a cap,v= .slice a n cap:=by
 rcases h.2 with ⟨rfl,rfl⟩|⟨g,cap,cur,rfl,_⟩
 ·exact⟨_,_,rfl⟩
 ·exact⟨_,_,rfl⟩
theorem Zz7 {α:Type}{l:List α}(h:0<l.length):∃q x,l=q++[x]∧l.length=q.length+1:=by
 obtain⟨q,x,rfl⟩:∃q x,l=q++[x]:=by
  rcases Qp l with rfl|⟨q,x,rfl⟩
  ·simp at h
  ·exact⟨q,x,by simp⟩
 exact⟨q,x,rfl,by simp⟩
theorem Zas (w:World)(P:Nat→Prop)(k n:Int):Zd w P (.node k n []) none 0:=
 Zd.mk k n [] none 0 (fun _=>none) (fun _=>0) (by simp) (by decide) (fun h=>by simp at h) (fun i h=>by simp at h)
theorem Zm9 {w:World}{P:Nat→Prop}{t:TM}{A:Option Addr}{cap g:Nat}{e:TypeId}(ht:Zd w P t A cap)(hb:Bk w g e #[.int .i64 t.k,.int .i64 t.n,.slice A t.l.length cap])(hg:P g)(k n:Int):Zd w P (.node k n [t]) (some ⟨g,0,none⟩) 1:=by
 refine Zd.mk k n [t] _ 1 (fun _=>A) (fun _=>cap) (by simp) (by decide) (fun _=>⟨g,0,rfl,hg,fun i h=> ?_⟩) (fun i h=> ?_)
 ·obtain rfl:i=0:=by simp at h;omega
  exact⟨hb.cell 0,hb.cell 1,hb.cell 2⟩
 ·obtain rfl:i=0:=by simp at h;omega
  exact ht
theorem Zt1 {w:World}{P:Nat→Prop}{t u:TM}{A A':Option Addr}{cap cap' g:Nat}{e:TypeId}(ht:Zd w P t A cap)(hu:Zd w P u A' cap')
    (hb:Bk w g e #[.int .i64 t.k,.int .i64 t.n,.slice A t.l.length cap,.int .i64 u.k,.int .i64 u.n,.slice A' u.l.length cap']) (hg:P g) (k n:Int):Zd w P (.node k n [t,u]) (some ⟨g,0,none⟩) 2:=by
  refine Zd.mk k n [t,u] _ 2 (fun i=>if i=0 then A else A') (fun i=>if i=0 then cap else cap') (by simp) (by decide) (fun _=>⟨g,0,rfl,hg,fun i h=> ?_⟩) (fun i h=> ?_)
  · have h2:i=0∨i=1:=by simp at h;omega
    rcases h2 with rfl|rfl
    · exact⟨hb.cell 0,hb.cell 1,hb.cell 2⟩
    · exact⟨hb.cell 3,hb.cell 4,hb.cell 5⟩
  · have h2:i=0∨i=1:=by simp at h;omega
    rcases h2 with rfl|rfl
    · exact ht
    · exact hu
def Z3b (k:Int)(cs:Array Value)(w:World)(e:Ending)(w':World):Prop:=∃g,e= .returned (.agg #[.int .i64 k,.int .i64 0,.slice (some ⟨g,0,none⟩) 2 2])∧w.heap.size≤g∧Bk w' g 27 cs∧Below w.heap.size w w'
theorem Bk.last (w:World)(e:TypeId)(cs:Array Value){g:Nat}(h:w.heap.size=g):Bk (w.alloc (.cells cs e)) g e cs:=by subst h;exact Bk.new w e cs
theorem Ztf (n:Int)(w:World):Calls prog 82 #[.int .i64 n] w fun e w'=>e= .returned (.agg #[.int .i64 1,.int .i64 n,.slice none 0 0])∧w'=w.alloc (.cells #[.int .i64 1,.int .i64 n,.slice none 0 0] 27):=by
 go_enter func82,ntmps82;go_wp2_with fail;exact QO (v:= .agg #[.int .i64 1,.int .i64 n,.slice none 0 0]) (by simp[QP,results82,go_sem]) rfl ⟨rfl,rfl⟩
theorem Zvs (n:Int)(w:World):Calls prog 74 #[.int .i64 n] w fun e w'=>e= .returned (.agg #[.int .i64 2,.int .i64 n,.slice none 0 0])∧w'=w.alloc (.cells #[.int .i64 2,.int .i64 n,.slice none 0 0] 27):=by
 go_enter func74,ntmps74;go_wp2_with fail;exact QO (v:= .agg #[.int .i64 2,.int .i64 n,.slice none 0 0]) (by simp[QP,results74,go_sem]) rfl ⟨rfl,rfl⟩
theorem Zo3 (n:Int)(w:World):Calls prog 78 #[.int .i64 n] w fun e w'=>e= .returned (.agg #[.int .i64 6,.int .i64 n,.slice none 0 0])∧w'=w.alloc (.cells #[.int .i64 6,.int .i64 n,.slice none 0 0] 27):=by
 go_enter func78,ntmps78;go_wp2_with fail;exact QO (v:= .agg #[.int .i64 6,.int .i64 n,.slice none 0 0]) (by simp[QP,results78,go_sem]) rfl ⟨rfl,rfl⟩
theorem Z8d (k k' n n':Int)(A A':Option Addr)(m m' cap cap':Nat)(w:World):Calls prog 85 #[.agg #[.int .i64 k,.int .i64 n,.slice A m cap],.agg #[.int .i64 k',.int .i64 n',.slice A' m' cap']] w (Z3b 3 #[.int .i64 k,.int .i64 n,.slice A m cap,.int .i64 k',.int .i64 n',.slice A' m' cap'] w):=by
 go_enter func85,ntmps85;go_wp2_with fail;refine QO (v:= .agg #[.int .i64 3,.int .i64 0,.slice (some ⟨w.heap.size+1+1+1,0,none⟩) 2 2]) (by simp[QP,results85,go_sem]) rfl ⟨_,rfl,by omega,Bk.last _ _ _ (by simp), ?_⟩;exact((((QA _ _).alloc Zfo _).alloc (by simp) _).alloc (by simp;omega) _).alloc (by simp;omega) _
theorem Z68 (k k' n n':Int)(A A':Option Addr)(m m' cap cap':Nat)(w:World):Calls prog 102 #[.agg #[.int .i64 k,.int .i64 n,.slice A m cap],.agg #[.int .i64 k',.int .i64 n',.slice A' m' cap']] w (Z3b 5 #[.int .i64 k,.int .i64 n,.slice A m cap,.int .i64 k',.int .i64 n',.slice A' m' cap'] w):=by
 go_enter func102,ntmps102;go_wp2_with fail;refine QO (v:= .agg #[.int .i64 5,.int .i64 0,.slice (some ⟨w.heap.size+1+1+1,0,none⟩) 2 2]) (by simp[QP,results102,go_sem]) rfl ⟨_,rfl,by omega,Bk.last _ _ _ (by simp), ?_⟩;exact((((QA _ _).alloc Zfo _).alloc (by simp) _).alloc (by simp;omega) _).alloc (by simp;omega) _
theorem Zjd:∀l l':List Int,l.Pairwise (· < ·)→l'.Pairwise (· < ·)→(∀x,x∈l↔x∈l')→l=l'
 | [],[],_,_,_=>rfl
 | [],b::r,_,_,h=>by have:=(h b).2 Qk;cases this
 | a::r,[],_,_,h=>by have:=(h a).1 Qk;cases this
 | a::r,b::r',h1,h2,h=>by
  rw[List.pairwise_cons]at h1 h2;have e:a=b:=by
   rcases List.mem_cons.1 ((h a).1 Qk)with e|e
   ·exact e
   ·have g1:=h2.1 a e;rcases List.mem_cons.1 ((h b).2 Qk)with e'|e'
    ·exact e'.symm
    ·have g2:=h1.1 b e';omega
  subst e;rw[Zjd r r' h1.2 h2.2 fun x=>⟨fun hx=> ?_,fun hx=> ?_⟩]
  ·rcases List.mem_cons.1 ((h x).1 (Qq _ hx))with e|e
   ·have:=h1.1 x hx;omega
   ·exact e
  ·rcases List.mem_cons.1 ((h x).2 (Qq _ hx))with e|e
   ·have:=h2.1 x hx;omega
   ·exact e
theorem Zid (d:Array Int)(hs:∀i j:Nat,i≤j→j<d.size→d[i]! ≤d[j]!):∀m,m≤d.size→
    (QM d m).Pairwise (· < ·)∧(∀x,x∈QM d m↔∃j,j<m∧d[j]! =x)
  | 0,_=>by
    have e:QM d 0=[]:=rfl;rw[e];exact⟨List.Pairwise.nil,fun x=>⟨(fun h=>by cases h),(fun h=>by obtain⟨j,hj,_⟩:=h;omega)⟩⟩
  | m+1,hm=>by
    obtain⟨h1,h2⟩:=Zid d hs m (by omega);rw[Lib.compactUpTo_succ];by_cases hk:Lib.keeps d m=true
    · rw[if_pos hk];have hk':m=0∨d[m]! ≠d[m - 1]! :=by simpa [Lib.keeps]using hk
      refine⟨List.pairwise_append.2 ⟨h1,Qg _ _,fun a ha b hb=> ?_⟩,fun x=> ?_⟩
      · obtain rfl:b=d[m]! :=by simpa using hb
        obtain⟨j,hj,rfl⟩:=(h2 a).1 ha;have g1:=hs j (m - 1) (by omega) (by omega);have g2:=hs (m - 1) m (by omega) (by omega);rcases hk' with e|e
        · omega
        · omega
      · rw[Qd,h2];constructor
        · rintro(⟨j,hj,e⟩|h)
          · exact⟨j,by omega,e⟩
          · obtain rfl:x=d[m]! :=by simpa using h
            exact⟨m,by omega,rfl⟩
        · rintro⟨j,hj,e⟩;by_cases hjm:j<m
          · exact .inl ⟨j,hjm,e⟩
          · obtain rfl:j=m:=by omega
            exact .inr (by simpa using e.symm)
    · rw[if_neg hk,Qe];have hk':m≠0∧d[m]! =d[m - 1]! :=by
        have: ¬ (m=0∨d[m]! ≠d[m - 1]!):=by simpa [Lib.keeps]using hk
        exact⟨fun e=>this (.inl e),Classical.byContradiction fun e=>this (.inr e)⟩
      refine⟨h1,fun x=> ?_⟩;rw[h2];constructor
      · rintro⟨j,hj,e⟩;exact⟨j,by omega,e⟩
      · rintro⟨j,hj,e⟩;by_cases hjm:j<m
        · exact⟨j,hjm,e⟩
        · obtain rfl:j=m:=by omega
          exact⟨j - 1,by omega,by rw[←hk'.2];exact e⟩
def Je (l:List Int):List Int:=QL (l.mergeSort fun x y=>decide (x≤y))
theorem Zrs (l:List Int):(Je l).Pairwise (· < ·)∧∀x,x∈Je l↔x∈l:=by
 have hp:=List.mergeSort_perm l fun x y=>decide (x≤y);have hsd:(l.mergeSort fun x y=>decide (x≤y)).Pairwise (fun x y=>decide (x≤y)=true):=List.pairwise_mergeSort (fun a b c h1 h2=>by simp at h1 h2⊢;omega) (fun a b=>by simp;omega) l;obtain⟨zs,hz⟩:∃zs,l.mergeSort (fun x y=>decide (x≤y))=zs:=⟨_,rfl⟩;unfold Je;rw[hz]at hp hsd⊢;have hidx:∀i,i<zs.length→zs.toArray[i]! =zs.getD i 0:=fun i hi=>by simp[List.getD,hi]
 have hs:∀i j:Nat,i≤j→j<zs.toArray.size→zs.toArray[i]! ≤zs.toArray[j]! :=fun i j hij hj=>by
  have hj':j<zs.length:=by simpa using hj
  by_cases e:i=j
  ·subst e;omega
  ·have:=List.pairwise_iff_getElem.1 hsd i j (by omega) hj' (by omega);simpa [show i<zs.length by omega,hj']using this
 have h:=Zid zs.toArray hs zs.length (by simp);refine⟨h.1,fun x=> ?_⟩;rw[show QL zs=QM zs.toArray zs.length from rfl,h.2,←hp.mem_iff];constructor
 ·rintro⟨j,hj,e⟩;rw[←e];simp[hj]
 ·intro hx;obtain⟨i,hi,e⟩:=Qt hx;exact⟨i,hi,by rw[←e];simp[hi]⟩
theorem Zgh (l:List Int):(Je l).Pairwise (· < ·):=(Zrs l).1
theorem Zea {l:List Int}{x:Int}:x∈Je l↔x∈l:=(Zrs l).2 x
theorem Zts:Je []=[]:=by unfold Je;rw[List.mergeSort_nil];rfl
theorem Zbq (l:List Int):(Je l).length≤l.length:=by
 have:=QN (l.mergeSort fun x y=>decide (x≤y));rw[Qo]at this;exact this
def Zh7 (w:World)(b o:Nat)(ks:List Int):Prop:=∀i (h:i<ks.length),w.cell? ⟨b,o+i,none⟩=some (.int .i64 ks[i])
theorem Zh7.kept {w w':World}{b o B:Nat}{ks:List Int}(h:Zh7 w b o ks)(hb:Below B w w')(hB:b<B):Zh7 w' b o ks:=fun i hi=>(hb.cell (p:=⟨b,o+i,none⟩) hB).trans (h i hi)
def Z56 (ks:List Int)(z:Int)(w:World)(e:Ending)(w':World):Prop:=∃r:Int,e= .returned (.int .i64 r)∧decide (0≤r)=ks.contains z∧w'=w
theorem Zn5 (a:Option Addr)(n m c:Nat):(Qw a n c).ownBlock=(Qw a m c).ownBlock:=by cases a<;>rfl
theorem Z1s (ks:List Int)(b o cap:Nat)(z:Int)(w:World)(hl:ks.length≤maxLen)(hc:Zh7 w b o ks):
  Calls prog 143 #[.slice (some ⟨b,o,none⟩) ks.length cap,.int .i64 z] w (Z56 ks z w):=by
 have HC:=hid hc;unfold maxLen at hl;clear hc;go_enter func143,ntmps143;go_wp2_with fail;go_loopw [8] (fun iv wr=>∃i:Nat,i≤ks.length∧iv= .int .i64 i∧wr=w∧Hid (∀j (h:j<ks.length),j<i→ks[j]≠z)) (fun iv _=>ks.length - (intOf iv).toNat)
 case atStart=>exact⟨0,QF _,rfl,rfl,hid (fun j h hj=>by omega)⟩
 case round=>
  obtain⟨i,hi1,rfl,hw,HQ⟩:=hrel;by_cases hil:i<ks.length
  ·have hx:=HC.out i hil;obtain⟨x,hx'⟩:∃x,ks[i]=x:=⟨_,rfl⟩;rw[hx']at hx;have HX:=hid hx';have hil':(i:Int)<(ks.length:Int):=by omega
   have hi0:(0:Int)≤(i:Int):=by omega
   clear hx';subst hw;by_cases hz:z=x
   ·have e1:(z==x)=true:=by simpa using hz
    have HIN:Hid (ks.contains z=true):=hid (by rw[List.contains_iff_mem,hz,←HX.out];exact Qh hil);clear hz HC;go_wp2_with fail;go_ret;exact⟨_,rfl,by rw[HIN.out];exact decide_eq_true (by omega),rfl⟩
   ·have e1:(z==x)=false:=by simpa using hz
    have HN:Hid (x≠z):=hid (fun e=>hz e.symm);clear hz HC;go_wp2_with fail;go_roundw
    case rel=>
     refine⟨i+1,by omega,rfl,by first|rfl|trivial,hid (fun j h hj=> ?_)⟩;by_cases e:j<i
     ·exact HQ.out j h e
     ·obtain rfl:j=i:=by omega
      rw[HX.out];exact HN.out
    case measure=>simp[intOf];omega
  ·obtain rfl:i=ks.length:=by omega
   subst hw;have HNO:Hid (ks.contains z=false):=hid (by
    cases e:ks.contains z with
    | false=>rfl
    | true=>
     obtain⟨j,hj,e2⟩:=Qt (List.contains_iff_mem.1 e);exact(HQ.out j hj hj e2).elim)
   clear HC HQ;go_wp2_with fail;go_ret;exact⟨_,rfl,by rw[HNO.out];rfl,rfl⟩
theorem Zyl (ks:List Int)(b o cap:Nat)(z:Int)(w:World)(hl:ks.length≤maxLen)(hc:Zh7 w b o ks):
  Calls prog 129 #[.slice (some ⟨b,o,none⟩) ks.length cap,.int .i64 z] w fun e w'=>e= .returned (.bool (ks.contains z))∧w'=w:=by
 have HI:=hid (Z1s ks b o cap z w hl hc);unfold Z56 at HI;obtain⟨x,hx⟩:∃x,ks.contains z=x:=⟨_,rfl⟩;rw[hx]at HI⊢;clear hc hx;go_enter func129,ntmps129;go_wp2_with fail;refine HI.out.mono ?_;rintro e w1 ⟨r,rfl,hr,rfl⟩;go_wp2_with fail;go_ret;exact⟨by rw[←hr];rfl,rfl⟩
theorem Zsl:(prog.info? 3).map (fun i=>(i.zero,i.size,i.bytes))=some (some (.int .i64 0),1,8):=by kernel_rfl
def Z58 (B g q kb kc:Nat)(ks:List Int)(p:List Int)(v:Value)(w:World):Prop:=
 Bk w g 34 #[v]∧w.ownsRow B 3 1 v p.length (p.map (Qx .i64))∧v.ownBlock≠some g∧w.cell? ⟨q,0,none⟩=some (.slice (some ⟨kb,0,none⟩) ks.length kc)∧Zh7 w kb 0 ks
def Zwa (g:Nat)(v:Value)(k:Nat):Prop:=k=g∨v.ownBlock=some k
theorem Zke (w:World)(g q:Nat)(u:Value):w.grownBy (w.setCell ⟨g,q,none⟩ u) (some g):=
 ⟨rfl,rfl,rfl,by simp[QK],fun k _ hk=>QC _ _ _ _ (fun e=>hk (by rw[e]))⟩
theorem Z2y (B g q kb kc:Nat)(ks:List Int)(hg:B≤g)(hq:q<B)(hk:kb<B)(hkl:ks.length≤2):
  Zpp B 154 [.pointer (some ⟨q,0,none⟩),.pointer (some ⟨g,0,none⟩)] (Z58 B g q kb kc ks) (Zwa g) (Zm7 (fun k=>ks.contains k)) List.length where
 cnt:=fun p t x=>by unfold Zm7;split<;>simp
 keep:=fun p v w w' h hb=>by
  obtain⟨h1,h2,h3,h4,h5⟩:=h;have hlt:=QG w _ h4;have hkw:∀i (hi:i<ks.length),kb<w.heap.size:=fun i hi=>QG w _ (h5 i hi);refine⟨h1.below hb h1.lt,h2.kept (row:=none) ⟨hb.os,hb.tape,hb.output,hb.size,fun k hk _=>hb.block k hk⟩ (by cases hv:v.ownBlock<;>simp),h3,(hb.cell (p:=⟨q,0,none⟩) hlt).trans h4,fun i hi=>(hb.cell (p:=⟨kb,0+i,none⟩) (hkw i hi)).trans (h5 i hi)⟩
 lt:=fun p v w h k hk=>by
  obtain⟨h1,h2,_⟩:=h;rcases hk with rfl|hk
  ·exact⟨hg,h1.lt⟩
  ·exact h2.lt k hk
 call:=by
  intro t x lo hi A cap p v w h hn hhi hB hx0 hx1 hn0 hn1 hcp;obtain⟨i0,hi0,hz0,hz1,hz2⟩:=QQ Zsl;obtain⟨b1,b2,b3,b4,b5⟩:=h;have hlt:=b1.lt;have hqw:=QG w _ b4;simp only at hqw;have c1:=b1.cell 0;simp at c1;have HB1:=hid b1;have HB2:=hid b2;have HB3:=hid b3;have HB4:=hid b4;have HB5:=hid b5;have HW1:=hid (fun o1=>(QA w.heap.size w).alloc Zfo o1);have HCT:=hid (fun o1=>Zyl ks kb 0 kc t.k (w.alloc o1) (by unfold maxLen;omega) (fun i hi=>(QH _ _ _ (QG w _ (HB5.out i hi))).trans (HB5.out i hi)));have HNF:=hid (show Zm7 (fun k=>ks.contains k) p t x=if ks.contains t.k=true then p++[t.n]else p from rfl);have HCP:=hid hcp;obtain⟨a1,cc1,rfl⟩:=Zl b2;obtain⟨y,hy⟩:∃y,ks.contains t.k=y:=⟨_,rfl⟩;rw[hy]at HCT HNF;clear b1 b2 b3 b5 hy hcp;show Calls _ _ #[Zc t A cap,.int .i64 x,.pointer (some ⟨q,0,none⟩),.pointer (some ⟨g,0,none⟩)] _ _
  unfold Zc;cases y with
  | false=>
   have HF2:=hid (show Zm7 (fun k=>ks.contains k) p t x=p by rw[HNF.out];rfl);go_enter func154,ntmps154;go_wp2_with fail;refine(HCT.out _).mono ?_;rintro e w1 ⟨rfl,rfl⟩;go_wp2_with fail;go_end0
   refine⟨rfl,.slice a1 p.length cc1, ?_,Zao.none _,fun k hk=> .inl hk⟩;rw[HF2.out];refine⟨HB1.out.alloc _,HB2.out.kept (row:=none) ⟨rfl,rfl,rfl,by simp,fun k hk _=>QB _ _ _ hk⟩ (by cases hv:(Qw a1 p.length cc1).ownBlock<;>simp),HB3.out,(QH _ _ _ hqw).trans HB4.out,fun i hi=>(QH _ _ _ (QG w _ (HB5.out i hi))).trans (HB5.out i hi)⟩
  | true=>
   have HF2:=hid (show Zm7 (fun k=>ks.contains k) p t x=p++[t.n]by rw[HNF.out];rfl);obtain⟨M,hM⟩:∃M,p.length=M:=⟨_,rfl⟩;have HM:=hid hM;have hM9:M≤8191:=by have:=HCP.out;omega
   have HM9:=hid hM9;rw[hM]at c1;have HOW:=hid (fun(o1 o2:Obj)=>(show((w.alloc o1).alloc o2).ownsRow B 3 1 (.slice a1 M cc1) M (p.map (Qx .i64))from by
    have:=HB2.out.kept (w':=(w.alloc o1).alloc o2) (row:=none) ⟨rfl,rfl,rfl,by simp;omega,fun k hk _=>(QB _ _ _ (by simp;omega)).trans (QB _ _ _ hk)⟩ (by cases hv:(Qw a1 p.length cc1).ownBlock<;>simp);rw[HM.out]at this;exact this))
   have hown1:(Qw a1 M cc1).ownBlock≠some g:=by rw[Zn5 a1 M p.length];exact HB3.out
   have hlb:∀k,(Qw a1 M cc1).ownBlock=some k→k<w.heap.size:=fun k hk=>(HB2.out.lt k (by rw[Zn5 a1 p.length M];exact hk)).2;have HOB:=hid hown1;have HLB:=hid hlb;have hTv:∀k,Zwa g (Qw a1 p.length cc1) k↔k=g∨(Qw a1 M cc1).ownBlock=some k:=fun k=>by unfold Zwa;rw[Zn5 a1 p.length M]
   have HTV:=hid hTv;clear hM hM9 hown1 hlb hTv;go_enter func154,ntmps154;go_wp2_with fail;refine(HCT.out _).mono ?_;rintro e w1 ⟨rfl,rfl⟩;go_wp2_with (at_builtin;refine Jb rfl _ _ 34 rfl B 3 i0 (.int .i64 0) 1 8 Tryz.underlying34 hi0 hz0 hz1 hz2 rfl (by decide) _ _ _ rfl (HOW.out _ _) (some ⟨w.heap.size+1,0,none⟩) 1 1 [.int .i64 t.n] rfl (Zai _ _ _ (by simp) rfl) (by simp[Qz]) ?c3 ?c4 ?c5 ?_)
   case c3=>have:=HM9.out;unfold maxLen;omega
   case c4=>have:=HM9.out;omega
   case c5=>simp;omega
   rintro v2 w3 ⟨hown3,hg3,ho3⟩;obtain⟨a2,cc2,rfl⟩:=Zl hown3;have hsz3:=hg3.size;simp at hsz3;have hlt3:g<w3.heap.size:=by omega
   have b3:Bk w3 g 34 #[.slice a1 M cc1]:=by
    have h1:=HB1.out;rw[HM.out]at h1;exact((h1.alloc _).alloc _).grown hg3 (fun e=>HOB.out e.symm)
   have hfz:=b3.cold 0;have c3:=b3.cell 0;simp at c3;have HB3':=hid b3;have HG3:=hid hg3;have HO3:=hid ho3;have HOWN3:=hid hown3;clear b3 hg3 ho3 hown3;go_wp2_with fail;go_end0
   have hv2:(Qw a2 (M+1) cc2).ownBlock≠some g:=by
    rcases HO3.out with h|h
    ·rw[h];exact HOB.out
    ·rw[h];simp;omega
   have hasd:Zao (Zwa g (.slice a1 p.length cc1)) w (w3.setCell ⟨g,0,none⟩ (.slice a2 (M+1) cc2)):=by
    refine⟨HG3.out.os,HG3.out.tape,HG3.out.output,by simp[QK];omega,fun k hk hnt=> ?_⟩;have hnt':=fun h=>hnt ((HTV.out k).2 h);have h1:k≠g:=fun e=>hnt' (.inl e);have h2:some k≠(Qw a1 M cc1).ownBlock:=fun e=>hnt' (.inr e.symm);rw[QC _ _ _ _ h1,HG3.out.block k (by simp;omega) h2,QB _ _ _ (by simp;omega),QB _ _ _ hk]
   have hbel:=hasd.below (B:=B) (fun k hk=>by
    rcases(HTV.out k).1 hk with rfl|h
    ·exact hg
    ·exact(HB2.out.lt k (by rw[Zn5 a1 p.length M];exact h)).1) hB
   refine⟨rfl,.slice a2 (M+1) cc2, ?_,hasd,fun k hk=> ?_⟩
   ·rw[HF2.out];refine⟨HB3'.out.at_ 0 _, ?_,hv2,(hbel.cell (p:=⟨q,0,none⟩) hq).trans HB4.out,fun i hi=>(hbel.cell (p:=⟨kb,0+i,none⟩) hk).trans (HB5.out i hi)⟩;have h1:=HOWN3.out.kept (Zke w3 g 0 (.slice a2 (M+1) cc2)) (.inr hv2);rw[Qa,Qi,HM.out];exact h1
   ·rcases hk with rfl|hk
    ·exact .inl (.inl rfl)
    ·rcases HO3.out with h|h
     ·left
      exact(HTV.out k).2 (.inr (by rw[←h];exact hk))
     ·right
      rw[h]at hk;injection hk with hk;simp at hk;omega
def Zg4 (l:List Int)(w:World)(e:Ending)(w':World):Prop:=∃v,e= .returned v∧w'.ownsRow w.heap.size 3 1 v l.length (l.map (Qx .i64))∧Below w.heap.size w w'
theorem Z0a (blk cap:Nat)(zs:List Int)(w:World)(hH:Holds (Qx .i64) w blk 0 zs.toArray)(hblk:blk<w.heap.size)(hsz:zs.length<4611686018427387904):
  Calls prog 155 #[.slice (some ⟨blk,0,none⟩) zs.length cap] w fun e w'=>e= .returned (.tuple #[])∧∃n os,w'=grow (putRow (Qx .i64) (QR w n) blk 0 (zs.mergeSort fun x y=>decide (x≤y)).toArray) os:=
 calls_of_every_depth fun D=>AnyS.slices_Sort_int_alone Tryz.lays189 D blk 0 cap zs w hH hblk hsz
theorem Zxw (p:Option Addr)(cap:Nat)(w:World):Calls prog 155 #[.slice p 0 cap] w fun e w'=>e= .returned (.tuple #[])∧w'=w:=Any.slices_Sort_int_none Tryz.lays189 p cap w
theorem Zyj (blk cap:Nat)(zs:List Int)(w:World)(hH:Holds (Qx .i64) w blk 0 zs.toArray)(hsz:zs.length≤9223372036854775807)(hcap:zs.length≤cap):
  Calls prog 156 #[.slice (some ⟨blk,0,none⟩) zs.length cap] w fun e w'=>e= .returned (.slice (some ⟨blk,0,none⟩) (QL zs).length cap)∧∃q,w'=putRow (Qx .i64) (QR w q) blk 0 (QL zs++List.replicate (zs.length - (QL zs).length) 0).toArray:=Any.slices_Compact_int Tryz.laysCompact blk 0 cap zs w hH hsz hcap
theorem Zwl (a:Option Addr)(cap:Nat)(w:World):Calls prog 156 #[.slice a 0 cap] w fun e w'=>e= .returned (.slice a 0 cap)∧w'=w:=Any.slices_Compact_int_empty Tryz.laysCompact a cap w
theorem Zrc {w:World}{base g cap:Nat}{zs:List Int}(h:w.ownsRow base 3 1 (.slice (some ⟨g,0,none⟩) zs.length cap) zs.length (zs.map (Qx .i64))):Holds (Qx .i64) w g 0 zs.toArray:=by
 intro j hj;have hj':j<zs.length:=by simpa using hj
 rcases h.2 with ⟨h0,_⟩|⟨g',cap',cur,hv,hb,hgc,h1,h2,h3,h4⟩
 ·cases h0
 ·cases hv
  refine⟨?_,by simp[World.frozen?,hgc]⟩;have:=h.cellAt j (by omega);rw[QE,this];simp[hj']
theorem Zek {w:World}{base base':Nat}{e:TypeId}{size:Nat}{v:Value}{n:Nat}{xs:List Value}(h:w.ownsRow base e size v n xs)(hb:base'≤base):w.ownsRow base' e size v n xs:=by
 refine⟨h.1, ?_⟩;rcases h.2 with h1|⟨g,cap,cur,h1,h2,h3⟩
 ·exact .inl h1
 ·exact .inr ⟨g,cap,cur,h1,by omega,h3⟩
theorem Zy4 (w:World)(q g:Nat)(d:Array Int):w.grownBy (putRow (Qx .i64) (QR w q) g 0 d) (some g):=
 ⟨rfl,rfl,rfl,by simp[putRow,mapBlock,QR],fun k _ hk=>by
  have:g≠k:=fun e=>hk (by rw[e]);simp[putRow,mapBlock,QR,Array.getElem?_modify,this]⟩
def Z6d (base g c:Nat)(p q:List Int)(w:World)(e:Ending)(w':World):Prop:=e= .returned (.tuple #[])∧w'.ownsRow base 3 1 (.slice (some ⟨g,0,none⟩) p.length c) p.length (q.map (Qx .i64))∧w.grownBy w' (some g)
theorem Z0b {base g c:Nat}{p:List Int}{w:World}(h:w.ownsRow base 3 1 (.slice (some ⟨g,0,none⟩) p.length c) p.length (p.map (Qx .i64)))(hp:p.length≤8192):
  Calls prog 155 #[.slice (some ⟨g,0,none⟩) p.length c] w (Z6d base g c p (p.mergeSort fun x y=>decide (x≤y)) w):=by
 have hl:(p.mergeSort fun x y=>decide (x≤y)).length=p.length:=Qo p;rcases h.2 with ⟨h0,_⟩|⟨g',c',cur,hv,hb,hgc,h1,h2,h3,h4⟩
 ·cases h0
 cases hv
 refine(Z0a g c p w (Zrc h) (by rcases Nat.lt_or_ge g w.heap.size with hlt|hge;exact hlt;rw[Array.getElem?_eq_none hge]at hgc;cases hgc) (by omega)).mono ?_;rintro e w' ⟨rfl,n,os,rfl⟩;exact⟨rfl,ownsRow_sortedI hl hb hgc h1 h2 h3,grownBy_sortedI _⟩
def Z53 (base g c:Nat)(q:List Int)(w:World)(e:Ending)(w':World):Prop:=e= .returned (.slice (some ⟨g,0,none⟩) q.length c)∧w'.ownsRow base 3 1 (.slice (some ⟨g,0,none⟩) q.length c) q.length (q.map (Qx .i64))∧w.grownBy w' (some g)
theorem Zyk {base g c:Nat}{p:List Int}{w:World}(h:w.ownsRow base 3 1 (.slice (some ⟨g,0,none⟩) p.length c) p.length (p.map (Qx .i64)))(hp:p.length≤8192):
  Calls prog 156 #[.slice (some ⟨g,0,none⟩) p.length c] w (Z53 base g c (QL p) w):=by
 have hle:=QN p;have hcap:p.length≤c:=by
  rcases h.2 with ⟨h0,_⟩|⟨g',c',cur,hv,hb,hgc,h1,h2,h3,h4⟩
  ·cases h0
  ·cases hv;exact h1
 refine(Zyj g c p w (Zrc h) (by omega) hcap).mono ?_;rintro e w' ⟨rfl,q,rfl⟩;have hc:=Lib.ownsRow_putRow (q:=q) (k:=(QL p).length) (ys:=QL p++List.replicate (p.length - (QL p).length) 0) h (by simp;omega) (by omega);rw[List.take_left]at hc;exact⟨rfl,hc,Zy4 w q g _⟩
def Zed (ks:List Int)(t:TM):List Int:=if Zb t then Je (Zcb (fun k=>ks.contains k) t)else[]
theorem Zlk (f:Int→Bool):∀t:TM,(Zcb f t).length≤t.size:=by
 intro t;induction t using TM.ind with
 | h k n l ih=>
  rw[Zj8,J6];have hL:∀r:List TM,(∀u∈r,u∈l)→(Zcl f r).length≤Ja r:=by
   intro r;induction r with
   | nil=>intro _;rw[Zfg];simp
   | cons u r ihr=>
    intro hm;rw[Zib,Zau,Qa];have h1:=ih u (hm u Qk);have h2:=ihr (fun v hv=>hm v (Qq _ hv));omega
  have:=hL l (fun _ h=>h);rw[Qa];split<;>simp<;>omega
theorem Zum (t:TM)(ks:List Int)(kb kc:Nat)(lo hi:Nat)(A:Option Addr)(cap:Nat)(w:World)(h:Za w lo hi t A cap)(hhi:hi≤w.heap.size)(hS:Zi w)(hks:ks.length≤2)(hkb:kb<w.heap.size)(hka:Zh7 w kb 0 ks):
  Calls prog 142 #[Zc t A cap,.slice (some ⟨kb,0,none⟩) ks.length kc] w (Zg4 (Zed ks t) w):=by
 have hsh:=fun W h1 h2 h3=>Za2 t lo hi A cap W h1 h2 h3;have HW2:=hid (fun o1 o2=>((QA w.heap.size w).alloc Zfo o1).alloc (by simp) o2);have HH:=hid (fun W (hb:Below w.heap.size w W)=>h.kept hb hhi);have HSS:=hid (fun W (hb:Below w.heap.size w W)=>hS.kept hb);have HKA:=hid (fun W (hb:Below w.heap.size w W)=>hka.kept hb hkb);have hgl:=hS.lt;have HKS:=hid hks;unfold Zed;clear h hS hka;cases hx:Zb t with
 | false=>
  rw[hx]at hsh;have HC:=hid hsh;rw[if_neg (by simp)];unfold Zc at HC⊢;clear hsh hx hks;go_enter func142,ntmps142;go_wp2_with fail;refine(HC.out _ (HH.out _ (HW2.out _ _)) (by simp;omega) (HSS.out _ (HW2.out _ _))).mono ?_;rintro e w1 ⟨rfl,hb1⟩;go_wp2_with fail;go_ret;exact⟨_,rfl,QJ _ _ _ _,(HW2.out _ _).trans (hb1.mono (by simp;omega))⟩
 | true=>
  rw[hx]at hsh;rw[if_pos rfl];obtain⟨f1,f2,f3⟩:=Zh.1 hx;obtain⟨p,hp⟩:∃p,Zcb (fun k=>ks.contains k) t=p:=⟨_,rfl⟩;have hlen:=Zlk (fun k=>ks.contains k) t;have hfold:=Z1p (fun k=>ks.contains k) t [] 0;rw[hp]at hlen hfold;rw[hp];rw[Qv]at hfold;have hplen:p.length≤8192:=by omega
  have HPL:=hid hplen;have HFO:=hid hfold;have HF:=hid (And.intro f2 (And.intro f3 f1));have HC:=hid hsh;have HE:=hid (fun(B g q:Nat)(hg:B≤g)(hq:q<B)(hk:kb<B)(W:World)=>Zs3 ⟨q,0,none⟩ ⟨g,0,none⟩ (Z2y B g q kb kc ks hg hq hk HKS.out) t 0 lo hi A cap [] (.slice none 0 0) W);unfold Zc at HC HE⊢;clear hsh hx f1 f2 f3 hp hlen hfold hplen hks;go_enter func142,ntmps142;go_wp2_with fail;refine(HC.out _ (HH.out _ (HW2.out _ _)) (by simp;omega) (HSS.out _ (HW2.out _ _))).mono ?_;rintro e w1 ⟨rfl,hb1⟩;have hz1:=hb1.size;simp at hz1;have HB1:=hid ((HW2.out (.cells #[.int .i64 t.k,.int .i64 t.n,.slice A t.l.length cap] 27) (.cells #[.slice (some ⟨kb,0,none⟩) ks.length kc] 34)).trans (hb1.mono (by simp;omega)));have b1:Bk w1 (w.heap.size+1) 34 #[.slice (some ⟨kb,0,none⟩) ks.length kc]:=(Bk.last (w.alloc (.cells #[.int .i64 t.k,.int .i64 t.n,.slice A t.l.length cap] 27)) 34 #[.slice (some ⟨kb,0,none⟩) ks.length kc] (by simp)).below hb1 (by simp);have b0:Bk w1 w.heap.size 27 #[.int .i64 t.k,.int .i64 t.n,.slice A t.l.length cap]:=((Bk.new w _ _).alloc _).below hb1 (by simp;omega);have c0:w1.cell? ⟨w.heap.size,0,none⟩=some (.int .i64 t.k):=b0.cell 0;have c1:w1.cell? ⟨w.heap.size,1,none⟩=some (.int .i64 t.n):=b0.cell 1;have c2:w1.cell? ⟨w.heap.size,2,none⟩=some (.slice A t.l.length cap):=b0.cell 2;have hl0:w.heap.size<w1.heap.size:=by omega
  have hl1:w.heap.size+1<w1.heap.size:=by omega
  have hl2:kb<w1.heap.size:=by omega
  have HK0:=hid (show w1.cell? ⟨w.heap.size+1,0,none⟩=some (.slice (some ⟨kb,0,none⟩) ks.length kc)from b1.cell 0);have HBa:=hid (HB1.out.alloc (by omega) (.cells #[.slice none 0 0] 34));have hNI:Z58 w1.heap.size w1.heap.size (w.heap.size+1) kb kc ks [] (.slice none 0 0) (w1.alloc (.cells #[.slice none 0 0] 34)):=
   ⟨Bk.new _ _ _,QJ _ _ _ _,by simp[Qy],(QH _ _ _ hl1).trans HK0.out,HKA.out _ HBa.out⟩
  have HNI:=hid hNI;clear b0 b1 hb1 hNI;go_wp2_with fail;refine(HE.out w1.heap.size w1.heap.size (w.heap.size+1) Zfo hl1 hl2 _ HNI.out (HH.out _ HBa.out) (by omega) (by simp) (by omega) (by have:=HF.out.1;omega) HF.out.2.1 (HSS.out _ HBa.out) (by omega) (by have:=HF.out.2.2;simp;omega)).mono ?_;rintro e w2 ⟨rfl,v2,⟨b2,ho2,hv2,_,_⟩,hA2,_⟩;rw[HFO.out]at ho2;have hbel2:=hA2.below (B:=w1.heap.size) (fun k hk=>by
   rcases hk with rfl|hk
   ·omega
   ·simp[Qy]at hk) (by simp)
  have HB2:=hid (HBa.out.trans (hbel2.mono (by omega)));have hz2:=HB2.out.size;have hl3:=b2.lt;have hfz2:=b2.cold 0;have c3:=b2.cell 0;simp at c3;have HBK2:=hid b2;have HO2:=hid ho2;have HV2:=hid hv2;clear b2 ho2 hv2 hA2 hbel2 c0 c1 c2;by_cases h0:p.length=0
  ·obtain⟨a2,cc2,rfl⟩:=Zl HO2.out;rw[h0]at c3;have HP0:Hid (p=[]):=hid (Qm h0);have HS0:=hid (fun W=>Zxw a2 cc2 W);have HC0:=hid (fun W=>Zwl a2 cc2 W);clear h0;go_wp2_with fail;refine(HS0.out _).mono ?_;rintro e w3 ⟨rfl,rfl⟩;go_wp2_with fail;refine(HC0.out _).mono ?_;rintro e w4 ⟨rfl,rfl⟩;go_wp2_with fail;go_ret;refine⟨_,rfl, ?_,HB2.out⟩;have:=HO2.out;rw[HP0.out]at this⊢;rw[Zts];exact Zek this (by omega)
  ·obtain⟨g,c,hv,hg1,hg2⟩:=HO2.out.form (by omega);subst hv;have HSO:=hid (Z0b HO2.out HPL.out);have hne:w1.heap.size≠g:=fun e=>by have:=HV2.out;simp[Qy]at this;omega
   have HNE:=hid hne;have hnelen:p.length=(p.mergeSort fun x y=>decide (x≤y)).length:=(Qo p).symm;have HNL:=hid hnelen;clear h0 hne hnelen;go_wp2_with fail;refine HSO.out.mono ?_;rintro e w3 ⟨rfl,ho3,hg3⟩;have b3:=HBK2.out.grown hg3 (fun e=>HNE.out (by injection e));have c4:=b3.cell 0;simp at c4;have hl4:=b3.lt;have HB3:=hid (HB2.out.grown hg3 (by omega) (fun k hk=>by injection hk with hk;omega));have hz3:=HB3.out.size;rw[HNL.out]at ho3;have HCO:=hid (Zyk ho3 (by rw[←HNL.out];exact HPL.out));rw[←HNL.out]at HCO;clear b3 ho3 hg3 c3;go_wp2_with fail;refine HCO.out.mono ?_;rintro e w4 ⟨rfl,ho4,hg4⟩;have HB4:=hid (HB3.out.grown hg4 (by omega) (fun k hk=>by injection hk with hk;omega));have HO4:=hid ho4;clear ho4 hg4;go_wp2_with fail;go_ret;exact⟨_,rfl,Zek HO4.out (by omega),HB4.out⟩
theorem Zg4.at_ {l:List Int}{w:World}{w1:World}{e:Ending}{w':World}(h:Zg4 l w1 e w')(hb:Below w.heap.size w w1):Zg4 l w e w':=by
 obtain⟨v,rfl,h1,h2⟩:=h;exact⟨v,rfl,Zek h1 hb.size,hb.trans (h2.mono hb.size)⟩
theorem Zy0 (t:TM)(lo hi:Nat)(A:Option Addr)(cap:Nat)(w:World)(h:Za w lo hi t A cap)(hhi:hi≤w.heap.size)(hS:Zi w):
  Calls prog 125 #[Zc t A cap] w (Zg4 (Zed [8] t) w):=by
 have HW2:=hid (fun o1 o2=>((QA w.heap.size w).alloc Zfo o1).alloc (by simp) o2);have HH:=hid (fun W (hb:Below w.heap.size w W)=>h.kept hb hhi);have HSS:=hid (fun W (hb:Below w.heap.size w W)=>hS.kept hb);have HN:=hid (fun W h1 h2 h3 h4 h5=>Zum t [8] (w.heap.size+1) 1 lo hi A cap W h1 h2 h3 (by simp) h4 h5);have HBK:=hid (Bk.last (w.alloc (.cells #[.int .i64 t.k,.int .i64 t.n,.slice A t.l.length cap] 27)) 3 #[.int .i64 8] (g:=w.heap.size+1) (by simp));obtain⟨L,hL⟩:∃L,Zed [8] t=L:=⟨_,rfl⟩;rw[hL]at HN⊢;unfold Zc at HN⊢;clear h hS hL;go_enter func125,ntmps125;go_wp2_with fail;refine(HN.out _ (HH.out _ (HW2.out _ _)) (by simp;omega) (HSS.out _ (HW2.out _ _)) (by simp) (fun i hi=> ?_)).mono ?_
 ·obtain rfl:i=0:=by simp at hi;omega
  exact HBK.out.cell 0
 rintro e w1 hn;obtain⟨v,rfl,h1,h2⟩:=hn.at_ (HW2.out _ _);obtain⟨a,c,rfl⟩:=Zl h1;have HO:=hid (And.intro h1 h2);clear h1 h2 hn;go_wp2_with fail;go_ret;exact⟨_,rfl,HO.out.1,HO.out.2⟩
def Zg0 (n:Int)(s:List Int×Bool)(a:Int):List Int×Bool:=if s.2=false∧n≤a then((if n<a then s.1++[n]else s.1)++[a],true)else(s.1++[a],s.2)
def Zbw (l:List Int)(n:Int):List Int×Bool:=l.foldl (Zg0 n) ([],false)
def Znf (l:List Int)(n:Int):List Int:=if(Zbw l n).2 then(Zbw l n).1 else(Zbw l n).1++[n]
theorem Zne (l:List Int)(a n:Int):Zbw (l++[a]) n=Zg0 n (Zbw l n) a:=by unfold Zbw;rw[List.foldl_append];rfl
theorem Zzy {l:List Int}{n:Int}{i:Nat}(h:i<l.length):Zbw (l.take (i+1)) n=Zg0 n (Zbw (l.take i) n) l[i]:=by
 rw[Qf h,Zne]
theorem Zo9:∀(m:Nat) (l:List Int) (n:Int),l.length=m→(Zbw l n).1.length≤m+1∧((Zbw l n).2=false→(Zbw l n).1.length=m)
 | 0,l,n,h=>by
  obtain rfl:=Qm h;simp[Zbw]
 | m+1,l,n,h=>by
  rcases Qp l with rfl|⟨q,a,rfl⟩
  ·simp at h
  ·rw[Qs]at h⊢;have hq:q.length=m:=by simpa using h
   obtain⟨h1,h2⟩:=Zo9 m q n hq;rw[Zne];unfold Zg0;split
   ·rename_i hc
    have:=h2 hc.1;refine⟨?_,fun e=>by cases e⟩;split<;>simp<;>omega
   ·refine⟨by simp;omega,fun e=>by simp;exact h2 e⟩
theorem Zro:∀(m:Nat) (l:List Int) (n:Int),l.length=m→l.Pairwise (· < ·)→
    ((Zbw l n).2=false→(Zbw l n).1=l∧∀x∈l,x<n)∧
    ((Zbw l n).2=true→(Zbw l n).1.Pairwise (· < ·)∧(∀x,x∈(Zbw l n).1↔x=n∨x∈l)∧∀x∈(Zbw l n).1,∃z∈l,x≤z)
  | 0,l,n,h,_=>by
    obtain rfl:=Qm h;exact⟨(fun _=>⟨rfl,(fun x hx=>by cases hx)⟩),(fun e=>by cases e)⟩
  | m+1,l,n,h,hp=>by
    rcases Qp l with rfl|⟨q,a,rfl⟩
    · simp at h
    · rw[Qs]at h hp⊢;have hq:q.length=m:=by simpa using h
      rw[List.pairwise_append]at hp;obtain⟨hp1,_,hp3⟩:=hp;have hlast:∀z∈q,z<a:=fun z hz=>hp3 z hz a (by simp);obtain⟨h1,h2⟩:=Zro m q n hq hp1;rw[Zne];unfold Zg0;split
      · rename_i hc
        obtain⟨e1,e2⟩:=h1 hc.1;refine⟨(fun e=>by cases e),fun _=> ?_⟩;rw[e1];by_cases hna:n<a
        · rw[if_pos hna];refine⟨?_,fun x=> ?_,fun x hx=>⟨a,by simp, ?_⟩⟩
          · rw[Ql];refine List.pairwise_append.2 ⟨hp1,by simp;exact hna,fun x hx y hy=> ?_⟩;have h3:y=n∨y=a:=by simpa using hy
            rcases h3 with rfl|rfl
            · exact e2 x hx
            · exact hlast x hx
          · simp only[Qd,Qj];constructor
            · rintro((h|h)|h)
              · exact .inr (.inl h)
              · exact .inl h
              · exact .inr (.inr h)
            · rintro(h|h|h)
              · exact .inl (.inr h)
              · exact .inl (.inl h)
              · exact .inr h
          · have h3:x∈q∨x=n∨x=a:=by simpa using hx
            rcases h3 with h|h|h
            · have:=hlast x h;omega
            · omega
            · omega
        · rw[if_neg hna];have hea:a=n:=by omega
          refine⟨List.pairwise_append.2 ⟨hp1,Qg _ _,fun x hx y hy=> ?_⟩,fun x=> ?_,fun x hx=>⟨x,by simpa using hx,Int.le_refl _⟩⟩
          · obtain rfl:y=a:=by simpa using hy
            exact hlast x hx
          · simp only[Qd,Qj];constructor
            · exact fun h=> .inr h
            · rintro(h|h)
              · exact .inr (by omega)
              · exact h
      · rename_i hc
        refine⟨fun e=> ?_,fun e=> ?_⟩
        · obtain⟨e1,e2⟩:=h1 e;have hlt:a<n:=by
            by_cases hx:n≤a
            · exact(hc ⟨e,hx⟩).elim
            · omega
          refine⟨by show(Zbw q n).1++[a]=_;rw[e1],fun x hx=> ?_⟩;have h3:x∈q∨x=a:=by simpa using hx
          rcases h3 with h|rfl
          · exact e2 x h
          · exact hlt
        · obtain⟨e1,e2,e3⟩:=h2 e;show((Zbw q n).1++[a]).Pairwise _∧(∀x,x∈(Zbw q n).1++[a]↔_)∧∀x∈(Zbw q n).1++[a],_
          refine⟨List.pairwise_append.2 ⟨e1,Qg _ _,fun x hx y hy=> ?_⟩,fun x=> ?_,fun x hx=> ?_⟩
          · obtain rfl:y=a:=by simpa using hy
            obtain⟨z,hz,hxz⟩:=e3 x hx;have:=hlast z hz;omega
          · simp only[Qd,Qj,e2];constructor
            · rintro((h|h)|h)
              · exact .inl h
              · exact .inr (.inl h)
              · exact .inr (.inr h)
            · rintro(h|h|h)
              · exact .inl (.inl h)
              · exact .inl (.inr h)
              · exact .inr h
          · have h3:x∈(Zbw q n).1∨x=a:=by simpa using hx
            rcases h3 with h|rfl
            · obtain⟨z,hz,hxz⟩:=e3 x h;exact⟨z,by simp[hz],hxz⟩
            · exact⟨x,by simp,Int.le_refl _⟩
theorem Zpa (c:List Int)(n:Int):Znf (Je c) n=Je (c++[n]):=by
 have hr:=Zgh c;obtain⟨h1,h2⟩:=Zro (Je c).length (Je c) n rfl hr;refine Zjd _ _ ?_ (Zgh _) fun x=> ?_
 ·unfold Znf;cases e:(Zbw (Je c) n).2 with
  | true=>rw[if_pos rfl];exact(h2 e).1
  | false=>
   rw[if_neg (by simp)];obtain⟨e1,e2⟩:=h1 e;rw[e1];exact List.pairwise_append.2 ⟨hr,Qg _ _,fun x hx y hy=>by
    obtain rfl:y=n:=by simpa using hy
    exact e2 x hx⟩
 ·rw[Zea,Qd,Qj];unfold Znf;cases e:(Zbw (Je c) n).2 with
  | true=>
   rw[if_pos rfl,(h2 e).2.1,Zea];exact or_comm
  | false=>
   rw[if_neg (by simp),(h1 e).1,Qd,Qj,Zea]
def Zeo (w:World)(a:Option Addr)(l:List Int):Prop:=0<l.length→∃b,a=some ⟨b,0,none⟩∧b<w.heap.size∧Zh7 w b 0 l
theorem Zeo.kept {w w':World}{a:Option Addr}{l:List Int}(h:Zeo w a l)(hb:Below w.heap.size w w'):Zeo w' a l:=fun h0=>by
 obtain⟨b,e,hlt,hi⟩:=h h0;exact⟨b,e,QD hlt hb.size,hi.kept hb hlt⟩
theorem Zeo.own {w:World}{base:Nat}{a:Option Addr}{c:Nat}{l:List Int}(h:w.ownsRow base 3 1 (.slice a l.length c) l.length (l.map (Qx .i64))):Zeo w a l:=fun h0=>by
 obtain⟨g,c',hv,hg1,hg2⟩:=h.form h0;injection hv with hv _ _;refine⟨g,hv,hg2,fun i hi=> ?_⟩;have hi':i<l.length:=hi;subst hv;have:=h.cellAt i (by rw[Nat.mul_one];exact hi');rw[QE,this];simp[hi]
def Z59 (w:World)(l:List Int)(n:Int)(ov dv iv:Value)(wr:World):Prop:=
 ∃(i:Nat) (o:List Int) (d:Bool),i≤l.length∧iv= .int .i64 i∧dv= .bool d∧Hid (Zbw (l.take i) n=(o,d))∧o.length≤8193∧Below w.heap.size w wr∧wr.ownsRow w.heap.size 3 1 ov o.length (o.map (Qx .i64))
theorem Zqy (l:List Int)(n:Int)(a:Option Addr)(c:Nat)(w:World)(hl:l.length≤8192)(hr:Zeo w a l):
  Calls prog 95 #[.slice a l.length c,.int .i64 n] w (Zg4 (Znf l n) w):=by
 obtain⟨i0,hi0,hz0,hz1,hz2⟩:=QQ Zsl;have HR:=hid hr;have HL:=hid hl;clear hr;go_enter func95,ntmps95;go_wp2_with fail;go_loopw [5,6,7] (Z59 w l n) (fun _ _ iv _=>l.length - (intOf iv).toNat)
 case atStart=>
  refine⟨0,[],false,QF _,rfl,rfl,hid (by rw[Qc];rfl),by simp,(QA _ _).alloc Zfo _, ?_⟩;have:=QI (base:=w.heap.size) (e:=3) (size:=1) w #[] 0 Zfo (by decide) rfl;simpa using this
 case round=>
  obtain⟨i,o,d,hi1,rfl,rfl,HF,ho9,hB,hown⟩:=hrel;have hz:=hB.size;obtain⟨a1,c1,rfl⟩:=Zl hown;by_cases hil:i<l.length
  ·obtain⟨b,hab,hbl,hints⟩:=HR.out (by omega);subst hab;have hx0:=(hB.cell (p:=⟨b,0+i,none⟩) hbl).trans (hints i hil);rw[QE]at hx0;have hstep:=Zzy (n:=n) hil;have hlen:=Zo9 (i+1) (l.take (i+1)) n (by rw[Qn];omega);obtain⟨x,hx⟩:∃x,l[i]=x:=⟨_,rfl⟩;rw[hx]at hx0 hstep;have HX:=hid hx;rw[HF.out]at hstep;have HS:=hid hstep;have HLN:=hid hlen.1;have hil':(i:Int)<(l.length:Int):=by omega
   have hi0':(0:Int)≤(i:Int):=by omega
   have hbw:b<wr.heap.size:=by omega
   obtain⟨M,hM⟩:∃M,o.length=M:=⟨_,rfl⟩;have HM:=hid hM;rw[hM]at hown ho9⊢;have HOW:=hid (fun(o1:Obj)=>(show(wr.alloc o1).ownsRow w.heap.size 3 1 (.slice a1 M c1) M (o.map (Qx .i64))from
    hown.kept (row:=none) ⟨rfl,rfl,rfl,by simp,fun k hk _=>QB _ _ _ hk⟩ (by cases hv:(Qw a1 M c1).ownBlock<;>simp)))
   have HB:=hid hB;have HOF:=hid (fun k (hk:(Qw a1 M c1).ownBlock=some k)=>hown.lt k hk);have HO9:=hid ho9;clear hstep hlen hx hM hown hB ho9 hints;by_cases hc:d=false∧n≤x
   ·obtain⟨rfl,hnx⟩:=hc;have e1:decide (n≤x)=true:=decide_eq_true hnx;by_cases hlt:n<x
    ·have e2:decide (n<x)=true:=decide_eq_true hlt;have HE:Hid (Zbw (l.take (i+1)) n=(o++[n]++[x],true)):=hid (by rw[HS.out];unfold Zg0;rw[if_pos ⟨rfl,hnx⟩,if_pos hlt]);have HOL:Hid ((o++[n]++[x]).length≤8193):=hid (by have:=HLN.out;rw[HE.out]at this;have:=HL.out;simp at*;omega);have HML:Hid (M+2≤8193):=hid (by have:=HOL.out;simp at this;have:=HM.out;omega);clear hnx hlt;go_wp2_with (at_builtin;refine Jb rfl _ _ 34 rfl w.heap.size 3 i0 (.int .i64 0) 1 8 Tryz.underlying34 hi0 hz0 hz1 hz2 rfl (by decide) _ _ _ rfl (HOW.out _) (some ⟨wr.heap.size,0,none⟩) 1 1 [.int .i64 n] rfl (Zai _ _ _ (by simp) rfl) (by simp[Qz]) ?c3 ?c4 ?c5 ?_)
     case c3=>have:=HO9.out;unfold maxLen;omega
     case c4=>have:=HO9.out;omega
     case c5=>simp;omega
     rintro v2 w3 ⟨hown3,hg3,ho3⟩;obtain⟨a2,c2,rfl⟩:=Zl hown3;have hz3:=hg3.size;simp at hz3;have hbb3:=(HB.out.alloc hz _).grown hg3 (by simp;omega) (fun k hk=>(HOF.out k hk).1);have HB3:=hid hbb3;have hx3:w3.cell? ⟨b,i,none⟩=some (.int .i64 x):=by
      have h1:=HR.out (by omega);obtain⟨b',e,hlt',hi'⟩:=h1;have eb:b=b':=by injection e with e;injection e
      subst eb;have h2:=(hbb3.cell (p:=⟨b,0+i,none⟩) hlt').trans (hi' i hil);rw[QE]at h2;rw[h2,HX.out]
     have HOW3:=hid (fun(o1:Obj)=>(show(w3.alloc o1).ownsRow w.heap.size 3 1 (.slice a2 (M+1) c2) (M+1) (o.map (Qx .i64)++[.int .i64 n])from
      hown3.kept (row:=none) ⟨rfl,rfl,rfl,by simp,fun k hk _=>QB _ _ _ hk⟩ (by cases hv:(Qw a2 (M+1) c2).ownBlock<;>simp)))
     have HOF3:=hid (fun k (hk:(Qw a2 (M+1) c2).ownBlock=some k)=>hown3.lt k hk);have hb3:b<w3.heap.size:=by omega
     clear hown3 hg3 ho3 hbb3;go_wp2_with (at_builtin;refine Jb rfl _ _ 34 rfl w.heap.size 3 i0 (.int .i64 0) 1 8 Tryz.underlying34 hi0 hz0 hz1 hz2 rfl (by decide) _ _ _ rfl (HOW3.out _) (some ⟨w3.heap.size,0,none⟩) 1 1 [.int .i64 x] rfl (Zai _ _ _ (by simp) rfl) (by simp[Qz]) ?c3 ?c4 ?c5 ?_)
     case c3=>have:=HML.out;unfold maxLen;omega
     case c4=>have:=HML.out;omega
     case c5=>simp;omega
     rintro v4 w5 ⟨hown5,hg5,ho5⟩;have HB5:=hid ((HB3.out.alloc HB3.out.size _).grown hg5 (by have:=HB3.out.size;simp;omega) (fun k hk=>(HOF3.out k hk).1));have HOWN5:=hid hown5;clear hown5 hg5 ho5;go_wp2_with fail;go_roundw
     case rel=>exact⟨i+1,o++[n]++[x],true,by omega,rfl,rfl,HE,HOL.out,HB5.out,by have h:=HOWN5.out;simp only[Qa,Qi,HM.out,Ql,List.map_cons,List.map_nil,List.length_cons,List.length_nil,List.cons_append,Qv,QE];exact h⟩
     case measure=>simp[intOf];omega
    ·have e2:decide (n<x)=false:=decide_eq_false hlt;have HE:Hid (Zbw (l.take (i+1)) n=(o++[x],true)):=hid (by rw[HS.out];unfold Zg0;rw[if_pos ⟨rfl,hnx⟩,if_neg hlt]);have HOL:Hid ((o++[x]).length≤8193):=hid (by have:=HLN.out;rw[HE.out]at this;have:=HL.out;simp at*;omega);clear hnx hlt;go_wp2_with (at_builtin;refine Jb rfl _ _ 34 rfl w.heap.size 3 i0 (.int .i64 0) 1 8 Tryz.underlying34 hi0 hz0 hz1 hz2 rfl (by decide) _ _ _ rfl (HOW.out _) (some ⟨wr.heap.size,0,none⟩) 1 1 [.int .i64 x] rfl (Zai _ _ _ (by simp) rfl) (by simp[Qz]) ?c3 ?c4 ?c5 ?_)
     case c3=>have:=HO9.out;unfold maxLen;omega
     case c4=>have:=HO9.out;omega
     case c5=>simp;omega
     rintro v2 w3 ⟨hown3,hg3,ho3⟩;have HB3:=hid ((HB.out.alloc hz _).grown hg3 (by simp;omega) (fun k hk=>(HOF.out k hk).1));have HOWN3:=hid hown3;clear hown3 hg3 ho3;go_wp2_with fail;go_roundw
     case rel=>exact⟨i+1,o++[x],true,by omega,rfl,rfl,HE,HOL.out,HB3.out,by rw[Qa,Qi,HM.out];exact HOWN3.out⟩
     case measure=>simp[intOf];omega
   ·have HE:Hid (Zbw (l.take (i+1)) n=(o++[x],d)):=hid (by rw[HS.out];unfold Zg0;exact if_neg hc);have HOL:Hid ((o++[x]).length≤8193):=hid (by have:=HLN.out;rw[HE.out]at this;have:=HL.out;simp at*;omega);have hdec:d=true∨(d=false∧decide (n≤x)=false):=by
     cases d with
     | true=>exact .inl rfl
     | false=>exact .inr ⟨rfl,decide_eq_false (fun h=>hc ⟨rfl,h⟩)⟩
    clear hc;rcases hdec with rfl|⟨rfl,hnx⟩
    ·go_wp2_with (at_builtin;refine Jb rfl _ _ 34 rfl w.heap.size 3 i0 (.int .i64 0) 1 8 Tryz.underlying34 hi0 hz0 hz1 hz2 rfl (by decide) _ _ _ rfl (HOW.out _) (some ⟨wr.heap.size,0,none⟩) 1 1 [.int .i64 x] rfl (Zai _ _ _ (by simp) rfl) (by simp[Qz]) ?c3 ?c4 ?c5 ?_)
     case c3=>have:=HO9.out;unfold maxLen;omega
     case c4=>have:=HO9.out;omega
     case c5=>simp;omega
     rintro v2 w3 ⟨hown3,hg3,ho3⟩;have HB3:=hid ((HB.out.alloc hz _).grown hg3 (by simp;omega) (fun k hk=>(HOF.out k hk).1));have HOWN3:=hid hown3;clear hown3 hg3 ho3;go_wp2_with fail;go_roundw
     case rel=>exact⟨i+1,o++[x],true,by omega,rfl,rfl,HE,HOL.out,HB3.out,by rw[Qa,Qi,HM.out];exact HOWN3.out⟩
     case measure=>simp[intOf];omega
    ·go_wp2_with (at_builtin;refine Jb rfl _ _ 34 rfl w.heap.size 3 i0 (.int .i64 0) 1 8 Tryz.underlying34 hi0 hz0 hz1 hz2 rfl (by decide) _ _ _ rfl (HOW.out _) (some ⟨wr.heap.size,0,none⟩) 1 1 [.int .i64 x] rfl (Zai _ _ _ (by simp) rfl) (by simp[Qz]) ?c3 ?c4 ?c5 ?_)
     case c3=>have:=HO9.out;unfold maxLen;omega
     case c4=>have:=HO9.out;omega
     case c5=>simp;omega
     rintro v2 w3 ⟨hown3,hg3,ho3⟩;have HB3:=hid ((HB.out.alloc hz _).grown hg3 (by simp;omega) (fun k hk=>(HOF.out k hk).1));have HOWN3:=hid hown3;clear hown3 hg3 ho3;go_wp2_with fail;go_roundw
     case rel=>exact⟨i+1,o++[x],false,by omega,rfl,rfl,HE,HOL.out,HB3.out,by rw[Qa,Qi,HM.out];exact HOWN3.out⟩
     case measure=>simp[intOf];omega
  ·obtain rfl:i=l.length:=by omega
   have HF2:Hid (Zbw l n=(o,d)):=hid (by have:=HF.out;rw[Qb]at this;exact this);have HLN:=hid (Zo9 l.length l n rfl).1;clear HF;cases d with
   | true=>
    have HP:Hid (Znf l n=o):=hid (by unfold Znf;rw[HF2.out];rfl);go_wp2_with fail;go_ret;exact⟨_,rfl,by rw[HP.out];exact hown,hB⟩
   | false=>
    have HP:Hid (Znf l n=o++[n]):=hid (by unfold Znf;rw[HF2.out];rfl);obtain⟨M,hM⟩:∃M,o.length=M:=⟨_,rfl⟩;have HM:=hid hM;rw[hM]at hown ho9⊢;have HOW:=hid (fun(o1:Obj)=>(show(wr.alloc o1).ownsRow w.heap.size 3 1 (.slice a1 M c1) M (o.map (Qx .i64))from
     hown.kept (row:=none) ⟨rfl,rfl,rfl,by simp,fun k hk _=>QB _ _ _ hk⟩ (by cases hv:(Qw a1 M c1).ownBlock<;>simp)))
    have HB:=hid hB;have HOF:=hid (fun k (hk:(Qw a1 M c1).ownBlock=some k)=>hown.lt k hk);have HO9:=hid ho9;clear hM hown hB ho9 hl;go_wp2_with (at_builtin;refine Jb rfl _ _ 34 rfl w.heap.size 3 i0 (.int .i64 0) 1 8 Tryz.underlying34 hi0 hz0 hz1 hz2 rfl (by decide) _ _ _ rfl (HOW.out _) (some ⟨wr.heap.size,0,none⟩) 1 1 [.int .i64 n] rfl (Zai _ _ _ (by simp) rfl) (by simp[Qz]) ?c3 ?c4 ?c5 ?_)
    case c3=>have:=HO9.out;unfold maxLen;omega
    case c4=>have:=HO9.out;omega
    case c5=>simp;omega
    rintro v2 w3 ⟨hown3,hg3,ho3⟩;obtain⟨a2,c2,rfl⟩:=Zl hown3;have HB3:=hid ((HB.out.alloc hz _).grown hg3 (by simp;omega) (fun k hk=>(HOF.out k hk).1));have HOWN3:=hid hown3;clear hown3 hg3 ho3;go_wp2_with fail;go_ret;exact⟨_,rfl,by rw[HP.out,Qa,Qi,HM.out];exact HOWN3.out,HB3.out⟩
theorem Zl7 {a b:List Int}(h:∀x,x∈a↔x∈b):Je a=Je b:=Zjd _ _ (Zgh _) (Zgh _) fun x=>by rw[Zea,Zea];exact h x
theorem Z2t (n:Int):Je [n]=[n]:=Zjd _ _ (Zgh _) (Qg _ _) fun x=>Zea
theorem Zj7 (f:Int→Bool):∀r:List TM,(Zcl f r).length≤Ja r
 | []=>by rw[Zfg];simp
 | u::r=>by
  rw[Zib,Zau,Qa];have h1:=Zlk f u;have h2:=Zj7 f r;omega
def Za6 (a b:Int)(k:Int):Bool:=(k==a)||(k==b)
def Zej (a b k n:Int):List Int:=if Za6 a b k then[n]else[]
theorem Zo8 (a b k n:Int):(Zej a b k n).length≤1:=by unfold Zej;split<;>simp
def Zpn (w:World)(a b k n:Int)(l:List TM)(A:Option Addr)(cap:Nat)(ov iv:Value)(wr:World):Prop:=
 ∃i:Nat,i≤l.length∧iv= .int .i64 i∧Below w.heap.size w wr∧wr.cell? ⟨w.heap.size,2,none⟩=some (.slice A l.length cap)∧w.heap.size<wr.heap.size∧
  Hid (wr.ownsRow w.heap.size 3 1 ov (Je (Zej a b k n++Zcl (Za6 a b) (l.take i))).length ((Je (Zej a b k n++Zcl (Za6 a b) (l.take i))).map (Qx .i64)))
def Zsq (w:World)(C q:List Int)(aq:Option Addr)(A:Option Addr)(ln cap:Nat)(ov kv:Value)(wr:World):Prop:=
 ∃j:Nat,j≤q.length∧kv= .int .i64 j∧Below w.heap.size w wr∧wr.cell? ⟨w.heap.size,2,none⟩=some (.slice A ln cap)∧w.heap.size<wr.heap.size∧Hid (Zeo wr aq q)∧
  Hid (wr.ownsRow w.heap.size 3 1 ov (Je (C++q.take j)).length ((Je (C++q.take j)).map (Qx .i64)))
theorem Zom (a b:Int):∀(t:TM) (lo hi:Nat) (A:Option Addr) (cap:Nat) (w:World),Za w lo hi t A cap→hi≤w.heap.size→t.size≤8192→
    Calls prog 63 #[Zc t A cap,.int .i64 a,.int .i64 b] w (Zg4 (Je (Zcb (Za6 a b) t)) w):=by
  obtain⟨i0,hi0,hz0,hz1,hz2⟩:=QQ Zsl;intro t;induction t using TM.ind with
  | h k n l ih=>
    intro lo hi A cap w h hhi hsz;obtain⟨hl,hm⟩:=h.bounds;rw[J6]at hsz;have IH:=hid ih;have HN:=hid h.sub;have HSZ:=hid hsz;have hll:=Zem l;have hl9:(l.length:Int)≤8192:=by omega
    unfold maxLen at hm;rw[Jk];have HRES:Hid (Je (Zcb (Za6 a b) (.node k n l))=Je (Zej a b k n++Zcl (Za6 a b) l)):=hid (by rw[Zj8];rfl);rw[HRES.out];clear ih h hsz hll HRES;have HLOOP:=hid (fun(ov:Value)(W:World)(hB:Below w.heap.size w W)(hc:W.cell? ⟨w.heap.size,2,none⟩=some (.slice A l.length cap)) (hlt:w.heap.size<W.heap.size) (ho:W.ownsRow w.heap.size 3 1 ov (Zej a b k n).length ((Zej a b k n).map (Qx .i64)))=>
      (show Zpn w a b k n l A cap ov (.int .i64 (0:Nat)) W from⟨0,QF _,rfl,hB,hc,hlt,hid (by
        have e:Je (Zej a b k n++Zcl (Za6 a b) (l.take 0))=Zej a b k n:=by
          rw[Qc,Zfg,Qe];unfold Zej;split
          · exact Z2t n
          · exact Zts
        rw[e];exact ho)⟩))
    cases hk:Za6 a b k with
    | false=>
      have hown:Zej a b k n=[]:=by unfold Zej;rw[hk];rfl
      have HOW0:=hid hown;unfold Za6 at hk;obtain⟨hk1,hk2⟩:(k==a)=false∧(k==b)=false:=by revert hk;cases (k==a)<;>cases (k==b)<;>simp
      clear hk hown;go_enter func63,ntmps63;go_wp2_with fail;go_loopw [7,8] (Zpn w a b k n l A cap) (fun _ iv _=>l.length - (intOf iv).toNat)
      case atStart=>
        refine HLOOP.out _ _ ?_ ?_ ?_ ?_
        · exact((QA _ _).alloc Zfo _).alloc (by simp) _
        · simp
        · simp;omega
        rw[HOW0.out];have:=QI (base:=w.heap.size) (e:=3) (size:=1) (w.alloc (.cells #[.int .i64 k,.int .i64 n,.slice A l.length cap] 27)) #[] 0 (by simp) (by decide) rfl;simpa using this
      case round=>
        obtain⟨i,hi1,rfl,hB,y2,hlt,HO⟩:=hrel;have hz:=hB.size;obtain⟨ao,co,rfl⟩:=Zl HO.out;have hi9:(i:Int)≤8192:=by omega
        by_cases hil:i<l.length
        · obtain⟨b',o',F,C',hA,hb1,hb2,hx,hnode⟩:=(HN.out i hil).kept hB hhi;subst hA;obtain⟨x0,x1,x2⟩:=hx;have hs1:=Zex hil;have hs2:=Zca l (i+1);have HIH:=hid (IH.out l[i] (Qh hil) lo hi F C' wr hnode (by omega) (by have:=HSZ.out;omega));have hcol:=Zic (Za6 a b) hil;have hlen1:=Zj7 (Za6 a b) (l.take (i+1));obtain⟨q,hq⟩:∃q,Je (Zcb (Za6 a b) l[i])=q:=⟨_,rfl⟩;obtain⟨C,hC⟩:∃C,Zej a b k n++Zcl (Za6 a b) (l.take i)=C:=⟨_,rfl⟩;have HNEXT:Hid (Je (Zej a b k n++Zcl (Za6 a b) (l.take (i+1)))=Je (C++q)):=hid (Zl7 fun x=>by
            rw[hcol,←hC,←hq];simp only[Qd,Zea,or_assoc])
          have HLEN:Hid (C.length+q.length≤8192):=hid (by
            have h1:=Zo8 a b k n;have h2:=Zbq (Zcb (Za6 a b) l[i]);rw[hcol,Qa]at hlen1;rw[←hC,←hq,Qa];have:=HSZ.out;omega)
          rw[hq]at HIH;rw[hC]at HO⊢;have hil':(i:Int)<(l.length:Int):=by omega
          have hi0':(0:Int)≤(i:Int):=by omega
          have hbw:b'<wr.heap.size:=by omega
          have HB:=hid hB;obtain⟨S,hS⟩:∃S,(Je (C++q.take 0)).length=S:=⟨_,rfl⟩;have e0:Je C=Je (C++q.take 0):=by rw[Qc,Qe]
          rw[e0]at HO⊢;clear hs1 hs2 hcol hlen1 hq hC hB hnode hS e0;go_wp2_with fail;refine HIH.out.mono ?_;rintro e w1 ⟨vq,rfl,hoq,hb1'⟩;obtain⟨aq,cq,rfl⟩:=Zl hoq;have hz1:=hb1'.size;have HB1:=hid (HB.out.trans (hb1'.mono hz));have HQ1:=hid (Zeo.own hoq);have HO1:=hid (HO.out.kept (row:=none) ⟨hb1'.os,hb1'.tape,hb1'.output,hb1'.size,fun k hk _=>hb1'.block k hk⟩ (by cases hv:(Qw ao (Je (C++Qu 0 q)).length co).ownBlock<;>simp));have hy1:=(hb1'.cell (p:=⟨w.heap.size,2,none⟩) hlt).trans y2;have hq9:(q.length:Int)≤8192:=by have:=HLEN.out;omega
          have hlt1:=QD hlt hz1;have HY1:=hid hy1;clear hb1' hoq y2 x0 x1 x2;go_wp2_with fail;rename World=>wq
          go_loopw [7,10] (Zsq w C q aq (some ⟨b',o',none⟩) l.length cap) (fun _ kv _=>q.length - (intOf kv).toNat)
          case atStart=>exact⟨0,QF _,rfl,HB1.out,HY1.out,hlt1,HQ1,hid (by have:=HO1.out;rw[Qc,Qe]at this⊢;exact this)⟩
          case round=>
            obtain⟨j,hj1,rfl,hB2,z2,hlt2,HRQ,HO2⟩:=hrel;obtain⟨ap,cp,rfl⟩:=Zl HO2.out;have hj9:(j:Int)≤8192:=by omega
            by_cases hjl:j<q.length
            · obtain⟨bq,hab,hbl,hints⟩:=HRQ.out (by omega);subst hab;have hxj:=hints j hjl;rw[QE]at hxj;have htk:q.take (j+1)=q.take j++[q[j]]:=by rw[Qf hjl]
              obtain⟨x,hx⟩:∃x,q[j]=x:=⟨_,rfl⟩;rw[hx]at hxj htk;have hlenC:(Je (C++q.take j)).length≤8192:=by
                have h1:=Zbq (C++q.take j);rw[Qa,Qn]at h1;have:=HLEN.out;omega
              have hput:=Zqy (Je (C++q.take j)) x ap cp wr hlenC (Zeo.own HO2.out);rw[Zpa]at hput;have HPUT:=hid hput;have HNX:Hid (Je (C++q.take (j+1))=Je (C++q.take j++[x])):=hid (by rw[htk,Ql]);have hjl':(j:Int)<(q.length:Int):=by omega
              have hj0':(0:Int)≤(j:Int):=by omega
              have HB2:=hid hB2;have HZ2:=hid z2;obtain⟨Sj,hSj⟩:∃Sj,(Je (C++q.take j)).length=Sj:=⟨_,rfl⟩;rw[hSj]at HPUT⊢;clear hints htk hx hlenC hput hB2 z2 hSj;go_wp2_with fail;refine HPUT.out.mono ?_;rintro e w3 ⟨v3,rfl,ho3,hb3⟩;have hz3:=hb3.size;have HB3:=hid (Zph HB2 hb3);have HO3:=hid (Zek ho3 (base':=w.heap.size) HB2.out.size);have HRQ3:=hid (HRQ.out.kept hb3);have HZ3:=hid ((hb3.cell (p:=⟨w.heap.size,2,none⟩) hlt2).trans HZ2.out);have hlt3:=QD hlt2 hz3;clear ho3 hb3;go_wp2_with fail;go_roundw
              case rel=>exact⟨j+1,by omega,rfl,HB3.out,HZ3.out,hlt3,HRQ3,hid (by rw[HNX.out];exact HO3.out)⟩
              case measure=>simp[intOf];omega
            · obtain rfl:j=q.length:=by omega
              have HB2:=hid hB2;have HZ2:=hid z2;have HO4:=hid HO2.out;rw[Qb]at HO4⊢;clear hB2 z2 HO2;go_wp2_with fail;go_roundw
              case rel=>exact⟨i+1,by omega,rfl,HB2.out,HZ2.out,hlt2,hid (by rw[HNEXT.out];exact HO4.out)⟩
              case measure=>simp[intOf];omega
        · obtain rfl:i=l.length:=by omega
          rw[Qb]at HO⊢;go_wp2_with fail;go_ret;exact⟨_,rfl,HO.out,hB⟩
    | true=>
      have hown:Zej a b k n=[n]:=by unfold Zej;rw[hk];rfl
      have HOW0:=hid hown;unfold Za6 at hk;have hkk:((k==a)=true)∨((k==a)=false∧(k==b)=true):=by revert hk;cases (k==a)<;>cases (k==b)<;>simp
      clear hk hown;rcases hkk with hk1|⟨hk1,hk2⟩
      · go_enter func63,ntmps63;have HOWN0:=hid (show((w.alloc (.cells #[.int .i64 k,.int .i64 n,.slice A l.length cap] 27)).alloc (.cells #[] 3)).ownsRow w.heap.size 3 1 (.slice (some ⟨w.heap.size+1,0,none⟩) 0 0) 0 []from by
          have:=QI (base:=w.heap.size) (e:=3) (size:=1) (w.alloc (.cells #[.int .i64 k,.int .i64 n,.slice A l.length cap] 27)) #[] 0 (by simp) (by decide) rfl;simpa using this)
        have HOWN1:=hid (fun(o1:Obj)=>HOWN0.out.kept (w':=((w.alloc (.cells #[.int .i64 k,.int .i64 n,.slice A l.length cap] 27)).alloc (.cells #[] 3)).alloc o1) (row:=none) ⟨rfl,rfl,rfl,by simp,fun k hk _=>QB _ _ _ hk⟩ (.inr (by simp[Qy])));go_wp2_with (at_builtin;refine Jb rfl _ _ 34 rfl w.heap.size 3 i0 (.int .i64 0) 1 8 Tryz.underlying34 hi0 hz0 hz1 hz2 rfl (by decide) _ _ _ rfl (HOWN1.out _) (some ⟨w.heap.size+1+1,0,none⟩) 1 1 [.int .i64 n] rfl (Zai _ _ _ (by simp) rfl) (by simp[Qz]) ?c3 ?c4 ?c5 ?_)
        case c3=>unfold maxLen;omega
        case c4=>omega
        case c5=>simp;omega
        rintro v2 w3 ⟨hown3,hg3,ho3⟩;obtain⟨a2,c2,rfl⟩:=Zl hown3;have hz3:=hg3.size;simp at hz3;have HB3:=hid (((((QA w.heap.size w).alloc Zfo (.cells #[.int .i64 k,.int .i64 n,.slice A l.length cap] 27)).alloc (by simp) (.cells #[] 3)).alloc (by simp;omega) _).grown hg3 (by simp;omega) (fun k hk=>by have h9:w.heap.size+1=k:=(by simpa [Qy]using hk);omega));have b3:Bk w3 w.heap.size 27 #[.int .i64 k,.int .i64 n,.slice A l.length cap]:=(((Bk.new w 27 _).alloc _).alloc _).grown hg3 (by simp[Qy]);have HY3:=hid (show w3.cell? ⟨w.heap.size,2,none⟩=some (.slice A l.length cap)from b3.cell 2);have HOWN3:=hid hown3;have hl3:w.heap.size<w3.heap.size:=by omega
        clear b3 hown3 hg3 ho3;go_wp2_with fail;go_loopw [7,8] (Zpn w a b k n l A cap) (fun _ iv _=>l.length - (intOf iv).toNat)
        case atStart=>
          refine HLOOP.out _ _ HB3.out HY3.out hl3 ?_;rw[HOW0.out];exact HOWN3.out
        case round=>
          obtain⟨i,hi1,rfl,hB,y2,hlt,HO⟩:=hrel;have hz:=hB.size;obtain⟨ao,co,rfl⟩:=Zl HO.out;have hi9:(i:Int)≤8192:=by omega
          by_cases hil:i<l.length
          · obtain⟨b',o',F,C',hA,hb1,hb2,hx,hnode⟩:=(HN.out i hil).kept hB hhi;subst hA;obtain⟨x0,x1,x2⟩:=hx;have hs1:=Zex hil;have hs2:=Zca l (i+1);have HIH:=hid (IH.out l[i] (Qh hil) lo hi F C' wr hnode (by omega) (by have:=HSZ.out;omega));have hcol:=Zic (Za6 a b) hil;have hlen1:=Zj7 (Za6 a b) (l.take (i+1));obtain⟨q,hq⟩:∃q,Je (Zcb (Za6 a b) l[i])=q:=⟨_,rfl⟩;obtain⟨C,hC⟩:∃C,Zej a b k n++Zcl (Za6 a b) (l.take i)=C:=⟨_,rfl⟩;have HNEXT:Hid (Je (Zej a b k n++Zcl (Za6 a b) (l.take (i+1)))=Je (C++q)):=hid (Zl7 fun x=>by
              rw[hcol,←hC,←hq];simp only[Qd,Zea,or_assoc])
            have HLEN:Hid (C.length+q.length≤8192):=hid (by
              have h1:=Zo8 a b k n;have h2:=Zbq (Zcb (Za6 a b) l[i]);rw[hcol,Qa]at hlen1;rw[←hC,←hq,Qa];have:=HSZ.out;omega)
            rw[hq]at HIH;rw[hC]at HO⊢;have hil':(i:Int)<(l.length:Int):=by omega
            have hi0':(0:Int)≤(i:Int):=by omega
            have hbw:b'<wr.heap.size:=by omega
            have HB:=hid hB;obtain⟨S,hS⟩:∃S,(Je (C++q.take 0)).length=S:=⟨_,rfl⟩;have e0:Je C=Je (C++q.take 0):=by rw[Qc,Qe]
            rw[e0]at HO⊢;clear hs1 hs2 hcol hlen1 hq hC hB hnode hS e0;go_wp2_with fail;refine HIH.out.mono ?_;rintro e w1 ⟨vq,rfl,hoq,hb1'⟩;obtain⟨aq,cq,rfl⟩:=Zl hoq;have hz1:=hb1'.size;have HB1:=hid (HB.out.trans (hb1'.mono hz));have HQ1:=hid (Zeo.own hoq);have HO1:=hid (HO.out.kept (row:=none) ⟨hb1'.os,hb1'.tape,hb1'.output,hb1'.size,fun k hk _=>hb1'.block k hk⟩ (by cases hv:(Qw ao (Je (C++Qu 0 q)).length co).ownBlock<;>simp));have hy1:=(hb1'.cell (p:=⟨w.heap.size,2,none⟩) hlt).trans y2;have hq9:(q.length:Int)≤8192:=by have:=HLEN.out;omega
            have hlt1:=QD hlt hz1;have HY1:=hid hy1;clear hb1' hoq y2 x0 x1 x2;go_wp2_with fail;rename World=>wq
            go_loopw [7,10] (Zsq w C q aq (some ⟨b',o',none⟩) l.length cap) (fun _ kv _=>q.length - (intOf kv).toNat)
            case atStart=>exact⟨0,QF _,rfl,HB1.out,HY1.out,hlt1,HQ1,hid (by have:=HO1.out;rw[Qc,Qe]at this⊢;exact this)⟩
            case round=>
              obtain⟨j,hj1,rfl,hB2,z2,hlt2,HRQ,HO2⟩:=hrel;obtain⟨ap,cp,rfl⟩:=Zl HO2.out;have hj9:(j:Int)≤8192:=by omega
              by_cases hjl:j<q.length
              · obtain⟨bq,hab,hbl,hints⟩:=HRQ.out (by omega);subst hab;have hxj:=hints j hjl;rw[QE]at hxj;have htk:q.take (j+1)=q.take j++[q[j]]:=by rw[Qf hjl]
                obtain⟨x,hx⟩:∃x,q[j]=x:=⟨_,rfl⟩;rw[hx]at hxj htk;have hlenC:(Je (C++q.take j)).length≤8192:=by
                  have h1:=Zbq (C++q.take j);rw[Qa,Qn]at h1;have:=HLEN.out;omega
                have hput:=Zqy (Je (C++q.take j)) x ap cp wr hlenC (Zeo.own HO2.out);rw[Zpa]at hput;have HPUT:=hid hput;have HNX:Hid (Je (C++q.take (j+1))=Je (C++q.take j++[x])):=hid (by rw[htk,Ql]);have hjl':(j:Int)<(q.length:Int):=by omega
                have hj0':(0:Int)≤(j:Int):=by omega
                have HB2:=hid hB2;have HZ2:=hid z2;obtain⟨Sj,hSj⟩:∃Sj,(Je (C++q.take j)).length=Sj:=⟨_,rfl⟩;rw[hSj]at HPUT⊢;clear hints htk hx hlenC hput hB2 z2 hSj;go_wp2_with fail;refine HPUT.out.mono ?_;rintro e w3 ⟨v3,rfl,ho3,hb3⟩;have hz3:=hb3.size;have HB3:=hid (Zph HB2 hb3);have HO3:=hid (Zek ho3 (base':=w.heap.size) HB2.out.size);have HRQ3:=hid (HRQ.out.kept hb3);have HZ3:=hid ((hb3.cell (p:=⟨w.heap.size,2,none⟩) hlt2).trans HZ2.out);have hlt3:=QD hlt2 hz3;clear ho3 hb3;go_wp2_with fail;go_roundw
                case rel=>exact⟨j+1,by omega,rfl,HB3.out,HZ3.out,hlt3,HRQ3,hid (by rw[HNX.out];exact HO3.out)⟩
                case measure=>simp[intOf];omega
              · obtain rfl:j=q.length:=by omega
                have HB2:=hid hB2;have HZ2:=hid z2;have HO4:=hid HO2.out;rw[Qb]at HO4⊢;clear hB2 z2 HO2;go_wp2_with fail;go_roundw
                case rel=>exact⟨i+1,by omega,rfl,HB2.out,HZ2.out,hlt2,hid (by rw[HNEXT.out];exact HO4.out)⟩
                case measure=>simp[intOf];omega
          · obtain rfl:i=l.length:=by omega
            rw[Qb]at HO⊢;go_wp2_with fail;go_ret;exact⟨_,rfl,HO.out,hB⟩
      · go_enter func63,ntmps63;have HOWN0:=hid (show((w.alloc (.cells #[.int .i64 k,.int .i64 n,.slice A l.length cap] 27)).alloc (.cells #[] 3)).ownsRow w.heap.size 3 1 (.slice (some ⟨w.heap.size+1,0,none⟩) 0 0) 0 []from by
          have:=QI (base:=w.heap.size) (e:=3) (size:=1) (w.alloc (.cells #[.int .i64 k,.int .i64 n,.slice A l.length cap] 27)) #[] 0 (by simp) (by decide) rfl;simpa using this)
        have HOWN1:=hid (fun(o1:Obj)=>HOWN0.out.kept (w':=((w.alloc (.cells #[.int .i64 k,.int .i64 n,.slice A l.length cap] 27)).alloc (.cells #[] 3)).alloc o1) (row:=none) ⟨rfl,rfl,rfl,by simp,fun k hk _=>QB _ _ _ hk⟩ (.inr (by simp[Qy])));go_wp2_with (at_builtin;refine Jb rfl _ _ 34 rfl w.heap.size 3 i0 (.int .i64 0) 1 8 Tryz.underlying34 hi0 hz0 hz1 hz2 rfl (by decide) _ _ _ rfl (HOWN1.out _) (some ⟨w.heap.size+1+1,0,none⟩) 1 1 [.int .i64 n] rfl (Zai _ _ _ (by simp) rfl) (by simp[Qz]) ?c3 ?c4 ?c5 ?_)
        case c3=>unfold maxLen;omega
        case c4=>omega
        case c5=>simp;omega
        rintro v2 w3 ⟨hown3,hg3,ho3⟩;obtain⟨a2,c2,rfl⟩:=Zl hown3;have hz3:=hg3.size;simp at hz3;have HB3:=hid (((((QA w.heap.size w).alloc Zfo (.cells #[.int .i64 k,.int .i64 n,.slice A l.length cap] 27)).alloc (by simp) (.cells #[] 3)).alloc (by simp;omega) _).grown hg3 (by simp;omega) (fun k hk=>by have h9:w.heap.size+1=k:=(by simpa [Qy]using hk);omega));have b3:Bk w3 w.heap.size 27 #[.int .i64 k,.int .i64 n,.slice A l.length cap]:=(((Bk.new w 27 _).alloc _).alloc _).grown hg3 (by simp[Qy]);have HY3:=hid (show w3.cell? ⟨w.heap.size,2,none⟩=some (.slice A l.length cap)from b3.cell 2);have HOWN3:=hid hown3;have hl3:w.heap.size<w3.heap.size:=by omega
        clear b3 hown3 hg3 ho3;go_wp2_with fail;go_loopw [7,8] (Zpn w a b k n l A cap) (fun _ iv _=>l.length - (intOf iv).toNat)
        case atStart=>
          refine HLOOP.out _ _ HB3.out HY3.out hl3 ?_;rw[HOW0.out];exact HOWN3.out
        case round=>
          obtain⟨i,hi1,rfl,hB,y2,hlt,HO⟩:=hrel;have hz:=hB.size;obtain⟨ao,co,rfl⟩:=Zl HO.out;have hi9:(i:Int)≤8192:=by omega
          by_cases hil:i<l.length
          · obtain⟨b',o',F,C',hA,hb1,hb2,hx,hnode⟩:=(HN.out i hil).kept hB hhi;subst hA;obtain⟨x0,x1,x2⟩:=hx;have hs1:=Zex hil;have hs2:=Zca l (i+1);have HIH:=hid (IH.out l[i] (Qh hil) lo hi F C' wr hnode (by omega) (by have:=HSZ.out;omega));have hcol:=Zic (Za6 a b) hil;have hlen1:=Zj7 (Za6 a b) (l.take (i+1));obtain⟨q,hq⟩:∃q,Je (Zcb (Za6 a b) l[i])=q:=⟨_,rfl⟩;obtain⟨C,hC⟩:∃C,Zej a b k n++Zcl (Za6 a b) (l.take i)=C:=⟨_,rfl⟩;have HNEXT:Hid (Je (Zej a b k n++Zcl (Za6 a b) (l.take (i+1)))=Je (C++q)):=hid (Zl7 fun x=>by
              rw[hcol,←hC,←hq];simp only[Qd,Zea,or_assoc])
            have HLEN:Hid (C.length+q.length≤8192):=hid (by
              have h1:=Zo8 a b k n;have h2:=Zbq (Zcb (Za6 a b) l[i]);rw[hcol,Qa]at hlen1;rw[←hC,←hq,Qa];have:=HSZ.out;omega)
            rw[hq]at HIH;rw[hC]at HO⊢;have hil':(i:Int)<(l.length:Int):=by omega
            have hi0':(0:Int)≤(i:Int):=by omega
            have hbw:b'<wr.heap.size:=by omega
            have HB:=hid hB;obtain⟨S,hS⟩:∃S,(Je (C++q.take 0)).length=S:=⟨_,rfl⟩;have e0:Je C=Je (C++q.take 0):=by rw[Qc,Qe]
            rw[e0]at HO⊢;clear hs1 hs2 hcol hlen1 hq hC hB hnode hS e0;go_wp2_with fail;refine HIH.out.mono ?_;rintro e w1 ⟨vq,rfl,hoq,hb1'⟩;obtain⟨aq,cq,rfl⟩:=Zl hoq;have hz1:=hb1'.size;have HB1:=hid (HB.out.trans (hb1'.mono hz));have HQ1:=hid (Zeo.own hoq);have HO1:=hid (HO.out.kept (row:=none) ⟨hb1'.os,hb1'.tape,hb1'.output,hb1'.size,fun k hk _=>hb1'.block k hk⟩ (by cases hv:(Qw ao (Je (C++Qu 0 q)).length co).ownBlock<;>simp));have hy1:=(hb1'.cell (p:=⟨w.heap.size,2,none⟩) hlt).trans y2;have hq9:(q.length:Int)≤8192:=by have:=HLEN.out;omega
            have hlt1:=QD hlt hz1;have HY1:=hid hy1;clear hb1' hoq y2 x0 x1 x2;go_wp2_with fail;rename World=>wq
            go_loopw [7,10] (Zsq w C q aq (some ⟨b',o',none⟩) l.length cap) (fun _ kv _=>q.length - (intOf kv).toNat)
            case atStart=>exact⟨0,QF _,rfl,HB1.out,HY1.out,hlt1,HQ1,hid (by have:=HO1.out;rw[Qc,Qe]at this⊢;exact this)⟩
            case round=>
              obtain⟨j,hj1,rfl,hB2,z2,hlt2,HRQ,HO2⟩:=hrel;obtain⟨ap,cp,rfl⟩:=Zl HO2.out;have hj9:(j:Int)≤8192:=by omega
              by_cases hjl:j<q.length
              · obtain⟨bq,hab,hbl,hints⟩:=HRQ.out (by omega);subst hab;have hxj:=hints j hjl;rw[QE]at hxj;have htk:q.take (j+1)=q.take j++[q[j]]:=by rw[Qf hjl]
                obtain⟨x,hx⟩:∃x,q[j]=x:=⟨_,rfl⟩;rw[hx]at hxj htk;have hlenC:(Je (C++q.take j)).length≤8192:=by
                  have h1:=Zbq (C++q.take j);rw[Qa,Qn]at h1;have:=HLEN.out;omega
                have hput:=Zqy (Je (C++q.take j)) x ap cp wr hlenC (Zeo.own HO2.out);rw[Zpa]at hput;have HPUT:=hid hput;have HNX:Hid (Je (C++q.take (j+1))=Je (C++q.take j++[x])):=hid (by rw[htk,Ql]);have hjl':(j:Int)<(q.length:Int):=by omega
                have hj0':(0:Int)≤(j:Int):=by omega
                have HB2:=hid hB2;have HZ2:=hid z2;obtain⟨Sj,hSj⟩:∃Sj,(Je (C++q.take j)).length=Sj:=⟨_,rfl⟩;rw[hSj]at HPUT⊢;clear hints htk hx hlenC hput hB2 z2 hSj;go_wp2_with fail;refine HPUT.out.mono ?_;rintro e w3 ⟨v3,rfl,ho3,hb3⟩;have hz3:=hb3.size;have HB3:=hid (Zph HB2 hb3);have HO3:=hid (Zek ho3 (base':=w.heap.size) HB2.out.size);have HRQ3:=hid (HRQ.out.kept hb3);have HZ3:=hid ((hb3.cell (p:=⟨w.heap.size,2,none⟩) hlt2).trans HZ2.out);have hlt3:=QD hlt2 hz3;clear ho3 hb3;go_wp2_with fail;go_roundw
                case rel=>exact⟨j+1,by omega,rfl,HB3.out,HZ3.out,hlt3,HRQ3,hid (by rw[HNX.out];exact HO3.out)⟩
                case measure=>simp[intOf];omega
              · obtain rfl:j=q.length:=by omega
                have HB2:=hid hB2;have HZ2:=hid z2;have HO4:=hid HO2.out;rw[Qb]at HO4⊢;clear hB2 z2 HO2;go_wp2_with fail;go_roundw
                case rel=>exact⟨i+1,by omega,rfl,HB2.out,HZ2.out,hlt2,hid (by rw[HNEXT.out];exact HO4.out)⟩
                case measure=>simp[intOf];omega
          · obtain rfl:i=l.length:=by omega
            rw[Qb]at HO⊢;go_wp2_with fail;go_ret;exact⟨_,rfl,HO.out,hB⟩
theorem Zn8 (k n:Int)(A:Option Addr)(m cap i:Nat)(w:World):Calls prog 115 #[.agg #[.int .i64 k,.int .i64 n,.slice A m cap],.int .i64 (i:Int)] w fun e w'=>e= .returned (.int .i64 (Zbz k i))∧Below w.heap.size w w':=by
 obtain⟨r,hr⟩:∃r,Zbz k i=r:=⟨_,rfl⟩;rw[hr];unfold Zbz at hr;have HR:=hid hr;clear hr;by_cases h1:i=1
 ·have e1:((i:Int)==1)=true:=by rw[beq_iff_eq];omega
  by_cases h5:k=5
  ·have e2:(k !=5)=false:=by rw[h5];rfl
   have HR2:Hid (r=0):=hid (by rw[←HR.out];exact if_neg (fun h=>h.2 h5));clear h1 h5;go_enter func115,ntmps115;go_wp2_with fail;go_ret;exact⟨by rw[HR2.out];rfl,(QA _ _).alloc Zfo _⟩
  ·have e2:(k !=5)=true:=by rw[bne_iff_ne];exact h5
   have HR2:Hid (r=1):=hid (by rw[←HR.out];exact if_pos ⟨h1,h5⟩);clear h1 h5;go_enter func115,ntmps115;go_wp2_with fail;go_ret;exact⟨by rw[HR2.out];rfl,(QA _ _).alloc Zfo _⟩
 ·have e1:((i:Int)==1)=false:=by rw[beq_eq_false_iff_ne];omega
  have HR2:Hid (r=0):=hid (by rw[←HR.out];exact if_neg (fun h=>h1 h.1));clear h1;go_enter func115,ntmps115;go_wp2_with fail;go_ret;exact⟨by rw[HR2.out];rfl,(QA _ _).alloc Zfo _⟩
theorem Zoj (k m:Int){l:List TM}{i:Nat}(h:i<l.length):Za4 k 0 (l.take (i+1)) m=max (Za4 k 0 (l.take i) m) (max (Zch l[i] (m+Zbz k i)) 0):=by
 rw[Zbc h,Zko];have e:0+(l.take i).length=i:=by simp;omega
 rw[e]
theorem Ztn:∀(t:TM) (m:Int) (lo hi:Nat) (A:Option Addr) (cap:Nat) (w:World),Za w lo hi t A cap→hi≤w.heap.size→0≤m→m+t.depth≤2000000→Zg t=true→
    Calls prog 94 #[Zc t A cap,.int .i64 m] w fun e w'=>e= .returned (.int .i64 (Zch t m))∧Below w.heap.size w w':=by
  intro t;induction t using TM.ind with
  | h k n l ih=>
    intro m lo hi A cap w h hhi hm0 hm1 hg;have hgn:=Zta hg;rw[Zo,Bool.and_eq_true]at hg;have HG:=hid hg.2;have hn0:0≤n:=hgn.1;have hn1:n≤1048576:=hgn.2;clear hg hgn;obtain⟨hl,hm⟩:=h.bounds;rw[J0]at hm1;have IH:=hid ih;have HN:=hid h.sub;unfold maxLen at hm;obtain⟨r,hr⟩:∃r,Zch (.node k n l) m=r:=⟨_,rfl⟩;rw[hr,Jk];rw[Zkp]at hr;have HR:=hid hr;have HM1:=hid hm1;clear ih h hr hm1;by_cases hk:k=1∧m≤n
    · have e1:(k==1)=true:=by rw[hk.1];rfl
      have e2:decide (m≤n)=true:=decide_eq_true hk.2;have HR2:Hid (r=n - m+1):=hid (by rw[←HR.out,if_pos hk]);have hmn:=hk.2;clear hk IH HN;go_enter func94,ntmps94;go_wp2_with fail;go_ret;exact⟨by rw[HR2.out];rfl,(QA _ _).alloc Zfo _⟩
    · have HR2:Hid (r=Za4 k 0 l m):=hid (by rw[←HR.out,if_neg hk]);have hdec:(k==1)=false∨((k==1)=true∧decide (m≤n)=false):=by
        by_cases h1:k=1
        · exact .inr ⟨by rw[h1];rfl,decide_eq_false (fun e=>hk ⟨h1,e⟩)⟩
        · exact .inl (by rw[beq_eq_false_iff_ne];exact h1)
      clear hk;rcases hdec with e1|⟨e1,e2⟩
      · go_enter func94,ntmps94;go_wp2_with fail;go_loopw [5,6] (fun nv iv wr=>∃i:Nat,i≤l.length∧iv= .int .i64 i∧nv= .int .i64 (Za4 k 0 (l.take i) m)∧Below w.heap.size w wr∧wr.cell? ⟨w.heap.size,0,none⟩=some (.int .i64 k)∧wr.cell? ⟨w.heap.size,1,none⟩=some (.int .i64 n)∧wr.cell? ⟨w.heap.size,2,none⟩=some (.slice A l.length cap)∧w.heap.size<wr.heap.size)
          (fun _ iv _=>l.length - (intOf iv).toNat)
        case atStart=>exact⟨0,QF _,rfl,by rw[Qc,Zdy],(QA _ _).alloc Zfo _,by simp,by simp,by simp,by simp⟩
        case round=>
          obtain⟨i,hi1,rfl,rfl,hB,z0,z1,z2,hlt⟩:=hrel;have hz:=hB.size;by_cases hil:i<l.length
          · obtain⟨b,o,F,C,hA,hb1,hb2,hx,hnode⟩:=(HN.out i hil).kept hB hhi;subst hA;obtain⟨x0,x1,x2⟩:=hx;have hb01:=Zqo k i;have hdep:l[i].depth≤Jm l:=by
              have h1:=Zbl (l.take (i+1)) (l.drop (i+1));rw[Qr,Zd6 hil]at h1;omega
            have hIH:=fun W h1 h2=>IH.out (l[i]'hil) (Qh hil) (m+Zbz k i) lo hi F C W h1 h2 (by omega) (by have:=HM1.out;omega) (Zg2 HG.out hil);have hnx:=Zoj k m hil;have hnn:=Zmg k m (l.take i) 0;have hvn:=Ziz l[i] (m+Zbz k i);obtain⟨bb,hbb⟩:∃bb,Zbz k i=bb:=⟨_,rfl⟩;obtain⟨v,hv⟩:∃v,Zch l[i] (m+bb)=v:=⟨_,rfl⟩;rw[hbb]at hIH hnx hvn hb01;rw[hv]at hIH hnx hvn;obtain⟨pp,hpp⟩:∃pp,Za4 k 0 (l.take i) m=pp:=⟨_,rfl⟩;rw[hpp]at hnx hnn⊢;obtain⟨u,hu⟩:∃u,l[i]=u:=⟨_,rfl⟩;rw[hu]at hIH hnode x0 x1 x2;have HIH:=hid hIH;have HNX:=hid hnx;have HNO:=hid (fun V (hV:Below wr.heap.size wr V)=>hnode.kept hV (by omega));have HBN:=hid (fun V=>Zn8 k n (some ⟨b,o,none⟩) l.length cap i V);rw[hbb]at HBN;have hW1:IntKind.i64.wrap (m+bb)=m+bb:=IntWalk.i64_in _ (by have:=HM1.out;omega);have hi0':(i:Int)<(l.length:Int):=by omega
            have hi00:(0:Int)≤(i:Int):=by omega
            have hbw:b<wr.heap.size:=by omega
            have HB:=hid hB;have hbr:=hid ((QA wr.heap.size wr).drew);have HK6:=hid (fun V (hV:Below wr.heap.size wr V)=>(show V.cell? ⟨w.heap.size,0,none⟩=some (.int .i64 k)∧V.cell? ⟨w.heap.size,1,none⟩=some (.int .i64 n)∧V.cell? ⟨w.heap.size,2,none⟩=some (.slice (some ⟨b,o,none⟩) l.length cap)∧V.cell? ⟨b,o+i*3,none⟩=some (.int .i64 u.k)∧V.cell? ⟨b,o+i*3+1,none⟩=some (.int .i64 u.n)∧V.cell? ⟨b,o+i*3+2,none⟩=some (.slice F u.l.length C)from
              ⟨(hV.cell (p:=⟨w.heap.size,0,none⟩) hlt).trans z0,(hV.cell (p:=⟨w.heap.size,1,none⟩) hlt).trans z1,(hV.cell (p:=⟨w.heap.size,2,none⟩) hlt).trans z2,(hV.cell (p:=⟨b,o+i*3,none⟩) hbw).trans x0,(hV.cell (p:=⟨b,o+i*3+1,none⟩) hbw).trans x1,(hV.cell (p:=⟨b,o+i*3+2,none⟩) hbw).trans x2⟩))
            clear hIH hnx hv hu hbb hpp hnode hB hdep hb01;go_wp2_with fail;go_region_held3 (fun w'=>w'.cell? ⟨w.heap.size,0,none⟩=some (.int .i64 k)∧w'.cell? ⟨w.heap.size,1,none⟩=some (.int .i64 n)∧w'.cell? ⟨w.heap.size,2,none⟩=some (.slice (some ⟨b,o,none⟩) l.length cap)∧w'.cell? ⟨b,o+i*3,none⟩=some (.int .i64 u.k)∧w'.cell? ⟨b,o+i*3+1,none⟩=some (.int .i64 u.n)∧w'.cell? ⟨b,o+i*3+2,none⟩=some (.slice F u.l.length C))
              (first|go_keep|exact HK6.out _ hbr.out)
              (first
               | (go_at_call 115
                  refine(HBN.out _).mono ?_;rintro e wn ⟨rfl,hbn⟩;have hbr:=hid (Zph hbr hbn);clear hbn)
               | (go_at_call 94
                  refine(HIH.out _ (HNO.out _ hbr.out) (by have:=hbr.out.size;omega)).mono ?_;rintro e wn2 ⟨rfl,hbn⟩;have hbr:=hid (Zph hbr hbn);clear hbn))
            all_goals
              have HB3:=hid (HB.out.trans (hbr.out.mono hz));obtain⟨q0,q1,q2,_,_,_⟩:=HK6.out _ hbr.out;have hlt3:=QD hlt hbr.out.size;clear z0 z1 z2 x0 x1 x2;by_cases hpv:pp<v
              · go_wp2_with fail;go_roundw
                case rel=>exact⟨i+1,by omega,rfl,Zk6 (by rw[HNX.out];omega),HB3.out,q0,q1,q2,hlt3⟩
                case measure=>simp[intOf];omega
              · go_wp2_with fail;go_roundw
                case rel=>exact⟨i+1,by omega,rfl,Zk6 (by rw[HNX.out];omega),HB3.out,q0,q1,q2,hlt3⟩
                case measure=>simp[intOf];omega
          · obtain rfl:i=l.length:=by omega
            rw[Qb];go_wp2_with fail;go_ret;exact⟨by rw[HR2.out];rfl,hB⟩
      · go_enter func94,ntmps94;go_wp2_with fail;go_loopw [5,6] (fun nv iv wr=>∃i:Nat,i≤l.length∧iv= .int .i64 i∧nv= .int .i64 (Za4 k 0 (l.take i) m)∧Below w.heap.size w wr∧wr.cell? ⟨w.heap.size,0,none⟩=some (.int .i64 k)∧wr.cell? ⟨w.heap.size,1,none⟩=some (.int .i64 n)∧wr.cell? ⟨w.heap.size,2,none⟩=some (.slice A l.length cap)∧w.heap.size<wr.heap.size)
          (fun _ iv _=>l.length - (intOf iv).toNat)
        case atStart=>exact⟨0,QF _,rfl,by rw[Qc,Zdy],(QA _ _).alloc Zfo _,by simp,by simp,by simp,by simp⟩
        case round=>
          obtain⟨i,hi1,rfl,rfl,hB,z0,z1,z2,hlt⟩:=hrel;have hz:=hB.size;by_cases hil:i<l.length
          · obtain⟨b,o,F,C,hA,hb1,hb2,hx,hnode⟩:=(HN.out i hil).kept hB hhi;subst hA;obtain⟨x0,x1,x2⟩:=hx;have hb01:=Zqo k i;have hdep:l[i].depth≤Jm l:=by
              have h1:=Zbl (l.take (i+1)) (l.drop (i+1));rw[Qr,Zd6 hil]at h1;omega
            have hIH:=fun W h1 h2=>IH.out (l[i]'hil) (Qh hil) (m+Zbz k i) lo hi F C W h1 h2 (by omega) (by have:=HM1.out;omega) (Zg2 HG.out hil);have hnx:=Zoj k m hil;have hnn:=Zmg k m (l.take i) 0;have hvn:=Ziz l[i] (m+Zbz k i);obtain⟨bb,hbb⟩:∃bb,Zbz k i=bb:=⟨_,rfl⟩;obtain⟨v,hv⟩:∃v,Zch l[i] (m+bb)=v:=⟨_,rfl⟩;rw[hbb]at hIH hnx hvn hb01;rw[hv]at hIH hnx hvn;obtain⟨pp,hpp⟩:∃pp,Za4 k 0 (l.take i) m=pp:=⟨_,rfl⟩;rw[hpp]at hnx hnn⊢;obtain⟨u,hu⟩:∃u,l[i]=u:=⟨_,rfl⟩;rw[hu]at hIH hnode x0 x1 x2;have HIH:=hid hIH;have HNX:=hid hnx;have HNO:=hid (fun V (hV:Below wr.heap.size wr V)=>hnode.kept hV (by omega));have HBN:=hid (fun V=>Zn8 k n (some ⟨b,o,none⟩) l.length cap i V);rw[hbb]at HBN;have hW1:IntKind.i64.wrap (m+bb)=m+bb:=IntWalk.i64_in _ (by have:=HM1.out;omega);have hi0':(i:Int)<(l.length:Int):=by omega
            have hi00:(0:Int)≤(i:Int):=by omega
            have hbw:b<wr.heap.size:=by omega
            have HB:=hid hB;have hbr:=hid ((QA wr.heap.size wr).drew);have HK6:=hid (fun V (hV:Below wr.heap.size wr V)=>(show V.cell? ⟨w.heap.size,0,none⟩=some (.int .i64 k)∧V.cell? ⟨w.heap.size,1,none⟩=some (.int .i64 n)∧V.cell? ⟨w.heap.size,2,none⟩=some (.slice (some ⟨b,o,none⟩) l.length cap)∧V.cell? ⟨b,o+i*3,none⟩=some (.int .i64 u.k)∧V.cell? ⟨b,o+i*3+1,none⟩=some (.int .i64 u.n)∧V.cell? ⟨b,o+i*3+2,none⟩=some (.slice F u.l.length C)from
              ⟨(hV.cell (p:=⟨w.heap.size,0,none⟩) hlt).trans z0,(hV.cell (p:=⟨w.heap.size,1,none⟩) hlt).trans z1,(hV.cell (p:=⟨w.heap.size,2,none⟩) hlt).trans z2,(hV.cell (p:=⟨b,o+i*3,none⟩) hbw).trans x0,(hV.cell (p:=⟨b,o+i*3+1,none⟩) hbw).trans x1,(hV.cell (p:=⟨b,o+i*3+2,none⟩) hbw).trans x2⟩))
            clear hIH hnx hv hu hbb hpp hnode hB hdep hb01;go_wp2_with fail;go_region_held3 (fun w'=>w'.cell? ⟨w.heap.size,0,none⟩=some (.int .i64 k)∧w'.cell? ⟨w.heap.size,1,none⟩=some (.int .i64 n)∧w'.cell? ⟨w.heap.size,2,none⟩=some (.slice (some ⟨b,o,none⟩) l.length cap)∧w'.cell? ⟨b,o+i*3,none⟩=some (.int .i64 u.k)∧w'.cell? ⟨b,o+i*3+1,none⟩=some (.int .i64 u.n)∧w'.cell? ⟨b,o+i*3+2,none⟩=some (.slice F u.l.length C))
              (first|go_keep|exact HK6.out _ hbr.out)
              (first
               | (go_at_call 115
                  refine(HBN.out _).mono ?_;rintro e wn ⟨rfl,hbn⟩;have hbr:=hid (Zph hbr hbn);clear hbn)
               | (go_at_call 94
                  refine(HIH.out _ (HNO.out _ hbr.out) (by have:=hbr.out.size;omega)).mono ?_;rintro e wn2 ⟨rfl,hbn⟩;have hbr:=hid (Zph hbr hbn);clear hbn))
            all_goals
              have HB3:=hid (HB.out.trans (hbr.out.mono hz));obtain⟨q0,q1,q2,_,_,_⟩:=HK6.out _ hbr.out;have hlt3:=QD hlt hbr.out.size;clear z0 z1 z2 x0 x1 x2;by_cases hpv:pp<v
              · go_wp2_with fail;go_roundw
                case rel=>exact⟨i+1,by omega,rfl,Zk6 (by rw[HNX.out];omega),HB3.out,q0,q1,q2,hlt3⟩
                case measure=>simp[intOf];omega
              · go_wp2_with fail;go_roundw
                case rel=>exact⟨i+1,by omega,rfl,Zk6 (by rw[HNX.out];omega),HB3.out,q0,q1,q2,hlt3⟩
                case measure=>simp[intOf];omega
          · obtain rfl:i=l.length:=by omega
            rw[Qb];go_wp2_with fail;go_ret;exact⟨by rw[HR2.out];rfl,hB⟩
