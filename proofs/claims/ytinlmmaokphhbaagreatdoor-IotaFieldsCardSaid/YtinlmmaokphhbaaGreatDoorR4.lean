import Derived.Test.YtinlmmaokphhbaaGreatDoorR3
import Derived.Test.YtinlmmaokphhbaaGreatDoorR2
import Derived.Test.YtinlmmaokphhbaaGreatDoorM2
import Derived.Test.YtinlmmaokphhbaaGreatDoorM6
import Derived.Deep.RegionWith
import Derived.Deep.RegionHeld3
import Derived.Test.YtinlmmaokphhbaaGreatDoorR1
import Derived.Test.YtinlmmaokphhbaaGreatDoorSLib
import Derived.Test.YtinlmmaokphhbaaGreatDoorM4
import Derived.Shelf.SlicesQ.Reverse
import Derived.Lib.OwnBridge
import Derived.Deep.RegionLaw
namespace Go.Proofs.YtinlmmaokphhbaaGreatDoor
set_option maxHeartbeats 4000000
set_option maxRecDepth 100000
open Go.RowKit Go.Sort Go.Lib
set_option linter.unusedVariables false
open Lib(hid)
open Go.Proofs.Tryz
open _root_.List renaming getElem?_eq_getElem→Qa,length_append→Qb,getElem_cons_zero→Qc,length_map→Qd,length_cons→Qe,length_nil→Qf,getElem_cons_succ→Qg,length→Qh,getElem_toArray→Qi,length_reverse→Qj,mem_cons_self→Qk
open _root_.Nat renaming zero_add→Ql,add_zero→Qm,zero_le→Qn,zero_mul→Qo,reduceAdd→Qp,le_trans→Qq,one_mul→Qr
open Go.RowKit.Below renaming refl→Qs
open Go.World renaming cell?_setCell_other→Qt
open _root_.Classical renaming epsilon→Qu,epsilon_spec→Qv
open _root_.And renaming intro→Qw
open Go.Sort renaming ahead→Qx
open Go.Value renaming slice→Qy,ownBlock→Qz
theorem Zgq{n:Nat}:n≤n:=Nat.le_refl n
def Zaw:TM→TM
 | .node k n l=>if k=5 then headF (.node k n l) l else .node k n l
where headF (d:TM):List TM→TM
 | []=>d
 | t::_=>Zaw t
def Jc:TM→List TM
 | .node k n l=>if k=5 then argsF l else[]
where argsF:List TM→List TM
 | []=>[]
 | [_]=>[]
 | t::a::_=>Jc t++[a]
theorem Zm1 (n:Int)(f a:TM):Zaw (.node 5 n [f,a])=Zaw f:=by rw[Zaw,if_pos rfl,Zaw.headF]
theorem Zm2 {k:Int}(n:Int)(l:List TM)(h:k≠5):Zaw (.node k n l)= .node k n l:=by rw[Zaw,if_neg h]
theorem Zj5 (n:Int)(f a:TM):Jc (.node 5 n [f,a])=Jc f++[a]:=by rw[Jc,if_pos rfl,Jc.argsF]
theorem Zj6 {k:Int}(n:Int)(l:List TM)(h:k≠5):Jc (.node k n l)=[]:=by rw[Jc,if_neg h]
def Zac (t:TM)(xs:List TM):TM:=xs.foldl (fun f a=> .node 5 0 [f,a]) t
theorem Zua {xs:List TM}{i:Nat}(t:TM)(h:i<xs.length):Zac t (xs.take (i+1))= .node 5 0 [Zac t (xs.take i),xs[i]]:=by
 unfold Zac;rw[Zbc h,List.foldl_append];rfl
theorem Zh9 {n:Int}{l:List TM}(h:Zg (.node 5 n l)=true):∃f a,l=[f,a]∧n=0∧Zg f=true∧Zg a=true:=by
 rw[Zo,Bool.and_eq_true]at h;obtain⟨_,_,h3,h4,h5,_⟩:=Jo h.1;unfold Zcq at h3;unfold Zec at h5;simp at h3 h5;obtain⟨f,a,rfl⟩:∃f a,l=[f,a]:=by
  match l,h3 with
  | [f,a],_=>exact⟨f,a,rfl⟩
 have hh:=h.2;rw[Z6]at hh;simp at hh;exact⟨f,a,rfl,by omega,hh.1,hh.2⟩
theorem Zg5:∀(t:TM),Zg t=true→(Jc t).length≤t.depth:=by
 intro t;induction t using TM.ind with
 | h k n l ih=>
  intro h;by_cases hk:k=5
  ·subst hk;obtain⟨f,a,rfl,rfl,hf,ha⟩:=Zh9 h;have:=ih f Qk hf;rw[Zj5,J0,J7,Qb];simp;omega
  ·rw[Zj6 n l hk];simp
theorem Zd.unique {w:World}{P:Nat→Prop}{t:TM}{A:Option Addr}{cap:Nat}(h:Zd w P t A cap):∀{P':Nat→Prop} {t':TM} {cap':Nat},Zd w P' t' A cap'→t'.k=t.k→t'.n=t.n→t'.l.length=t.l.length→t'=t:=by
 induction h with
 | mk k n l A cap F C hl hm hc hn ih=>
  intro P' t' cap' h' e1 e2 e3;cases h' with
  | mk k' n' l' _ _ F' C' hl' hm' hc' hn'=>
   simp only[TM.k,TM.n,TM.l]at e1 e2 e3;subst e1 e2;congr 1
   refine List.ext_getElem e3 fun i h1 h2=> ?_;obtain⟨b,o,hA,_,hx⟩:=hc (by omega);obtain⟨b',o',hA',_,hx'⟩:=hc' (by omega);rw[hA]at hA';obtain⟨rfl,rfl⟩:b=b'∧o=o':=by
    injection hA' with hA';injection hA' with q1 q2;exact⟨q1,q2⟩
   obtain⟨x0,x1,x2⟩:=hx i h2;obtain⟨y0,y1,y2⟩:=hx' i h1;rw[x0]at y0;rw[x1]at y1;rw[x2]at y2;have hk:l[i].k=l'[i].k:=by injection y0 with q;injection q with q
   have hq:l[i].n=l'[i].n:=by injection y1 with q;injection q with q
   have h3:F i=F' i∧l[i].l.length=l'[i].l.length:=by injection y2 with q;injection q with q1 q2 q3;exact⟨q1,q2⟩
   have hh:=hn' i h1;rw[←h3.1]at hh;exact ih i h2 hh hk.symm hq.symm h3.2.symm
theorem Zt9 (k n:Int)(l:List TM)(lo hi:Nat)(A:Option Addr)(cap:Nat)(w:World)(h:Za w lo hi (.node k n l) A cap)(hhi:hi≤w.heap.size)(hS:Zi w)(hg:Zg (.node k n l)=true):
  Calls prog 131 #[.agg #[.int .i64 k,.int .i64 n,.slice A l.length cap]] w fun e w'=>e= .returned (.bool (k==5))∧Below w.heap.size w w':=by
 have HW1:=hid (fun o1=>((Qs w.heap.size w).alloc Zgq o1));have ht:Zad k n l=true:=by rw[Zo,Bool.and_eq_true]at hg;exact hg.1
 have CF:=hid (fun V (hV:Below w.heap.size w V)=>(Zp1 k n l lo hi A cap V (h.kept hV hhi) (by have:=hV.size;omega) (hS.kept hV)).mono fun e w' h=>Qw (h.1.trans (by rw[ht])) h.2);clear h hS hg ht;by_cases hk:k=5
 ·have e1:(k==5)=true:=by rw[hk];rfl
  rw[e1];clear hk;go_enter func131,ntmps131;go_wp2_with fail;refine(CF.out _ (HW1.out _)).mono ?_;rintro e w1 ⟨rfl,hb1⟩;go_wp2_with fail;go_ret;exact⟨rfl,(HW1.out _).trans (hb1.mono (by simp))⟩
 ·have e1:(k==5)=false:=by simpa using hk
  rw[e1];clear hk;go_enter func131,ntmps131;go_wp2_with fail;go_ret;exact⟨rfl,HW1.out _⟩
def Z51 (t:TM)(lo hi:Nat)(w:World)(e:Ending)(w':World):Prop:=
 ∃a c ps,e= .returned (.slice a ps.length c)∧Zk w' w.heap.size 27 (.slice a ps.length c) ps (fun b=>lo≤b∧b<hi)∧ps.map (·.1)=Jc t∧Below w.heap.size w w'
theorem Z0g {w:World}{g:Nat}{e:TypeId}{cs:Array Value}(h:Bk w g e cs):Src w cs.size (some ⟨g,0,none⟩) 1 cs.toList:=by
 refine⟨by simp,fun _=>⟨_,rfl,fun j u hu=> ?_⟩⟩;rw[Addr.add_lit,Ql,h.cell j,←hu,Array.getElem?_toList]
theorem Z05:∀(t:TM) (lo hi:Nat) (A:Option Addr) (cap:Nat) (w:World),Za w lo hi t A cap→hi≤w.heap.size→Zg t=true→t.depth≤1000→
    Calls prog 67 #[Zc t A cap] w (Z51 t lo hi w):=by
  intro t;induction t using TM.ind with
  | h k n l ih=>
    obtain⟨i0,hi0,hz0,hz1,hz2⟩:=info_parts Zc9;intro lo hi A cap w h hhi hg hdp;have HW2:=hid (fun o1 o2=>((Qs w.heap.size w).alloc Zgq o1).alloc (by simp) o2);by_cases hk:k=5
    · subst hk;obtain⟨f,a,rfl,rfl,hf,ha⟩:=Zh9 hg;have hlen:=Zg5 f hf;rw[J0,J7]at hdp;obtain⟨bk,o,F,C,hA,hb1,hb2,hx,hnode⟩:=h.sub 0 (by simp);obtain⟨bk2,o2,G,D,hA2,_,_,hy,hnode2⟩:=h.sub 1 (by simp);subst hA;obtain⟨rfl,rfl⟩:bk=bk2∧o=o2:=by
        injection hA2 with q;injection q with q1 q2;exact⟨q1,q2⟩
      simp only[Qc,Qg,Qo,Qm,Qr]at hx hy hnode hnode2;have HIH:=hid (fun V (hV:Below (w.alloc (.cells #[.int .i64 5,.int .i64 0,.slice (some ⟨bk,o,none⟩) 2 cap] 27)).heap.size (w.alloc (.cells #[.int .i64 5,.int .i64 0,.slice (some ⟨bk,o,none⟩) 2 cap] 27)) V)=>ih f Qk lo hi F C V (hnode.kept (((Qs w.heap.size w).alloc Zgq _).trans (hV.mono (by simp))) hhi) (by have:=hV.size;simp at this;omega) hf (by omega));have HAG:=hid (show Jc (.node 5 0 [f,a])=Jc f++[a]by rw[Zj5]);have hbw:bk<w.heap.size:=by omega
      have HX:=hid hx;have HY:=hid hy;have HNO2:=hid hnode2;have HKS:=hid (fun V (hV:Below (w.alloc (.cells #[.int .i64 5,.int .i64 0,.slice (some ⟨bk,o,none⟩) 2 cap] 27)).heap.size (w.alloc (.cells #[.int .i64 5,.int .i64 0,.slice (some ⟨bk,o,none⟩) 2 cap] 27)) V)=>(show V.cell? ⟨w.heap.size,2,none⟩=some (.slice (some ⟨bk,o,none⟩) 2 cap)∧V.cell? ⟨bk,o,none⟩=some (.int .i64 f.k)∧V.cell? ⟨bk,o+1,none⟩=some (.int .i64 f.n)∧V.cell? ⟨bk,o+2,none⟩=some (.slice F f.l.length C)∧V.cell? ⟨bk,o+3,none⟩=some (.int .i64 a.k)∧V.cell? ⟨bk,o+3+1,none⟩=some (.int .i64 a.n)∧V.cell? ⟨bk,o+3+2,none⟩=some (.slice G a.l.length D)from by
        have hb0:=((Qs w.heap.size w).alloc Zgq (.cells #[.int .i64 5,.int .i64 0,.slice (some ⟨bk,o,none⟩) 2 cap] 27)).trans (hV.mono (by simp));obtain⟨x0,x1,x2⟩:=HX.out.kept hb0 hbw;obtain⟨y0,y1,y2⟩:=HY.out.kept hb0 hbw;exact⟨(((Bk.new w 27 _).below hV (by simp)).cell 2),x0,x1,x2,y0,y1,y2⟩))
      have HD0:=hid (show Below (w.alloc (.cells #[.int .i64 5,.int .i64 0,.slice (some ⟨bk,o,none⟩) 2 cap] 27)).heap.size (w.alloc (.cells #[.int .i64 5,.int .i64 0,.slice (some ⟨bk,o,none⟩) 2 cap] 27)) (w.alloc (.cells #[.int .i64 5,.int .i64 0,.slice (some ⟨bk,o,none⟩) 2 cap] 27)).drew from(Qs _ _).drew);have HV2:=hid (fun(w5:World)(hb:Below (((w.alloc (.cells #[.int .i64 5,.int .i64 0,.slice (some ⟨bk,o,none⟩) 2 cap] 27)).alloc (.cells #[.int .i64 a.k,.int .i64 a.n,.slice G a.l.length D] 27)).drew).heap.size (((w.alloc (.cells #[.int .i64 5,.int .i64 0,.slice (some ⟨bk,o,none⟩) 2 cap] 27)).alloc (.cells #[.int .i64 a.k,.int .i64 a.n,.slice G a.l.length D] 27)).drew) w5)=>(show Bk w5 (w.heap.size+1) 27 #[.int .i64 a.k,.int .i64 a.n,.slice G a.l.length D]from(show Bk (((w.alloc (.cells #[.int .i64 5,.int .i64 0,.slice (some ⟨bk,o,none⟩) 2 cap] 27)).alloc (.cells #[.int .i64 a.k,.int .i64 a.n,.slice G a.l.length D] 27)).drew) (w.heap.size+1) 27 #[.int .i64 a.k,.int .i64 a.n,.slice G a.l.length D]from Bk.last (w.alloc (.cells #[.int .i64 5,.int .i64 0,.slice (some ⟨bk,o,none⟩) 2 cap] 27)) 27 #[.int .i64 a.k,.int .i64 a.n,.slice G a.l.length D] (by simp)).below hb (by simp)));have HV3:=hid (fun(w5:World)(hb:Below (((w.alloc (.cells #[.int .i64 5,.int .i64 0,.slice (some ⟨bk,o,none⟩) 2 cap] 27)).drew).alloc (.cells #[.int .i64 a.k,.int .i64 a.n,.slice G a.l.length D] 27)).heap.size (((w.alloc (.cells #[.int .i64 5,.int .i64 0,.slice (some ⟨bk,o,none⟩) 2 cap] 27)).drew).alloc (.cells #[.int .i64 a.k,.int .i64 a.n,.slice G a.l.length D] 27)) w5)=>(show Bk w5 (w.heap.size+1) 27 #[.int .i64 a.k,.int .i64 a.n,.slice G a.l.length D]from(show Bk (((w.alloc (.cells #[.int .i64 5,.int .i64 0,.slice (some ⟨bk,o,none⟩) 2 cap] 27)).drew).alloc (.cells #[.int .i64 a.k,.int .i64 a.n,.slice G a.l.length D] 27)) (w.heap.size+1) 27 #[.int .i64 a.k,.int .i64 a.n,.slice G a.l.length D]from Bk.last (w.alloc (.cells #[.int .i64 5,.int .i64 0,.slice (some ⟨bk,o,none⟩) 2 cap] 27)) 27 #[.int .i64 a.k,.int .i64 a.n,.slice G a.l.length D] (by simp)).below hb (by simp)));have HBASE:=hid (fun V (hV:Below (w.alloc (.cells #[.int .i64 5,.int .i64 0,.slice (some ⟨bk,o,none⟩) 2 cap] 27)).heap.size (w.alloc (.cells #[.int .i64 5,.int .i64 0,.slice (some ⟨bk,o,none⟩) 2 cap] 27)) V)=>(show w.heap.size+1≤V.heap.size from by have:=hV.size;simp at this;omega));have HFIN:Hid (∀(w3:World) (q:Nat) (a3:Option Addr) (c3:Nat) (ps:List (TM×Option Addr×Nat)) (v2:Value) (w4:World),w.heap.size+1≤q→Zk w3 q 27 (.slice a3 ps.length c3) ps (fun b=>lo≤b∧b<hi)→Below (w.alloc (.cells #[.int .i64 5,.int .i64 0,.slice (some ⟨bk,o,none⟩) 2 cap] 27)).heap.size (w.alloc (.cells #[.int .i64 5,.int .i64 0,.slice (some ⟨bk,o,none⟩) 2 cap] 27)) w3→
          Zfa w3 q 27 3 (.slice a3 ps.length c3) (ps.length+1) (Zu ps++Zq (a,G,D)) v2 w4→
          (w4.cell? ⟨w.heap.size,2,none⟩=some (.slice (some ⟨bk,o,none⟩) 2 cap)∧w4.cell? ⟨bk,o,none⟩=some (.int .i64 f.k)∧w4.cell? ⟨bk,o+1,none⟩=some (.int .i64 f.n)∧w4.cell? ⟨bk,o+2,none⟩=some (.slice F f.l.length C)∧w4.cell? ⟨bk,o+3,none⟩=some (.int .i64 a.k)∧w4.cell? ⟨bk,o+3+1,none⟩=some (.int .i64 a.n)∧w4.cell? ⟨bk,o+3+2,none⟩=some (.slice G a.l.length D))∧Hid (Zk w4 w.heap.size 27 v2 (ps++[(a,G,D)]) (fun b=>lo≤b∧b<hi))∧Hid (Below w.heap.size w w4)):=hid (by
        intro w3 q a3 c3 ps v2 w4 hq hrow hB ha4;have hlt0:=hrow.row.lt;have hz:=hB.size;simp at hz;have hb0:=((Qs w.heap.size w).alloc Zgq (.cells #[.int .i64 5,.int .i64 0,.slice (some ⟨bk,o,none⟩) 2 cap] 27)).trans (hB.mono (by simp));have hne:∀g,g<w.heap.size+1→some g≠(Qy a3 ps.length c3).ownBlock:=fun g hg e=>by have:=hlt0 g e.symm;omega
        obtain⟨k0,x0,x1,x2,y0,y1,y2⟩:=HKS.out w3 hB;have c2':=fun z=>ha4.2.1.cell_far ⟨bk,z,none⟩ (by show bk<_;omega) (hne bk (by omega));have c1':=ha4.2.1.cell_far ⟨w.heap.size,2,none⟩ (by show w.heap.size<_;omega) (hne w.heap.size (by omega));refine⟨⟨c1'.trans k0,(c2' _).trans x0,(c2' _).trans x1,(c2' _).trans x2,(c2' _).trans y0,(c2' _).trans y1,(c2' _).trans y2⟩, ?_, ?_⟩
        · have hp:=hrow.push (Pn:=fun b=>lo≤b∧b<hi) (p:=(a,G,D)) (HNO2.out.kept hb0 hhi) (fun b hb=>⟨by omega,fun e=>by have:=hlt0 b e;omega⟩) ha4.1 ha4.2.1 ha4.2.2;have hp2:=hp.base (base':=w.heap.size) (by omega);exact⟨hp2.row,fun b hb=>hp2.far b (.inl hb),fun p hp'=>(hp2.node p hp').imp (fun _ _ _=>rfl) (fun b hb=>hb.elim id id)⟩
        · exact hb0.grown ha4.2.1 (by omega) (fun g e=>by have:=hlt0 g e;omega))
      have HLEN:=hid hlen;have hdf:f.depth≤1000:=by omega
      have hbk:=HD0;unfold Zc at HIH;clear ih h hg hdp hx hy hnode hnode2 hlen hf ha;rw[Jk];obtain⟨k0,x0,x1,x2,y0,y1,y2⟩:=HKS.out _ (Qs _ _);clear k0;simp only[Qe,Qf,Ql,Qp];go_enter func67,ntmps67;go_wp2_with fail;go_region_held3 (fun w'=>w'.cell? ⟨w.heap.size,2,none⟩=some (.slice (some ⟨bk,o,none⟩) 2 cap)∧w'.cell? ⟨bk,o,none⟩=some (.int .i64 f.k)∧w'.cell? ⟨bk,o+1,none⟩=some (.int .i64 f.n)∧w'.cell? ⟨bk,o+2,none⟩=some (.slice F f.l.length C)∧w'.cell? ⟨bk,o+3,none⟩=some (.int .i64 a.k)∧w'.cell? ⟨bk,o+3+1,none⟩=some (.int .i64 a.n)∧w'.cell? ⟨bk,o+3+2,none⟩=some (.slice G a.l.length D))
        (first|exact hks|exact HKS.out _ hbk.out|exact HKS.out _ (hbk.out.alloc hbk.out.size _))
        (first
        | (go_at_call 67
           refine(HIH.out _ (by first|exact hbk.out|exact hbk.out.alloc hbk.out.size _)).mono ?_;rintro e w3 ⟨a3,c3,ps,rfl,hrow,hmp,hbn⟩;have hbk2:Below (w.alloc (.cells #[.int .i64 5,.int .i64 0,.slice (some ⟨bk,o,none⟩) 2 cap] 27)).heap.size (w.alloc (.cells #[.int .i64 5,.int .i64 0,.slice (some ⟨bk,o,none⟩) 2 cap] 27)) w3:=by first|exact hbk.out.trans (hbn.mono hbk.out.size)|exact(hbk.out.alloc hbk.out.size _).trans (hbn.mono (hbk.out.alloc hbk.out.size _).size)
           have HROW3:=hid hrow;have hbs:=hid hbn.size;have hq3:=hid (HBASE.out _ hbk.out);have hq3b:=hid (HBASE.out _ (hbk.out.alloc hbk.out.size (.cells #[.int .i64 a.k,.int .i64 a.n,.slice G a.l.length D] 27)));have HMP:=hid hmp;have hpl:ps.length≤1000:=by
             have h1:=congrArg Qh hmp;rw[Qd]at h1;have h2:=HLEN.out;omega
           first
           | (have hsrc:=hid (Z0g (HV2.out _ hbn)))
           | (have hsrc:=hid (Z0g (HV3.out _ hbn)))
           | skip
           have hbk:=hid hbk2;clear hrow hmp hbn hbk2)
        | (refine Zdm rfl (.tmp 11) (.tmp 16) 23 rfl _ 27 i0 (.agg #[.int .i64 0,.int .i64 0,.slice none 0 0]) 3 40 Tryz.underlying23 hi0 hz0 hz1 hz2 rfl (by decide) (.slice a3 ps.length c3) ps.length (Zu ps) rfl (HROW3.out.alloc _).row (some ⟨w3.heap.size,0,none⟩) 1 1 (Zq (a,G,D)) rfl (Zai _ _ _ (by simp) rfl) (Jx _) (by unfold maxLen;omega) (by omega) (Qq hbs.out (by simp)) ?_
           rintro v2 w4 ha4;obtain⟨a4,c4,rfl⟩:=Zl ha4.1;obtain⟨hks,HR4,HB4⟩:=HFIN.out _ _ a3 c3 ps _ w4 (by first|exact hq3.out|exact hq3b.out) (HROW3.out.alloc _) (hbk.out.alloc hbk.out.size _) ha4;clear ha4)
        | (refine Zdm rfl (.tmp 11) (.tmp 16) 23 rfl _ 27 i0 (.agg #[.int .i64 0,.int .i64 0,.slice none 0 0]) 3 40 Tryz.underlying23 hi0 hz0 hz1 hz2 rfl (by decide) (.slice a3 ps.length c3) ps.length (Zu ps) rfl HROW3.out.row (some ⟨w.heap.size+1,0,none⟩) 1 1 (Zq (a,G,D)) rfl hsrc.out (Jx _) (by unfold maxLen;omega) (by omega) hbs.out ?_
           rintro v2 w4 ha4;obtain⟨a4,c4,rfl⟩:=Zl ha4.1;obtain⟨hks,HR4,HB4⟩:=HFIN.out _ _ a3 c3 ps _ w4 (by first|exact hq3.out|exact hq3b.out) HROW3.out hbk.out ha4;clear ha4))
      all_goals
        go_wp2_with fail;go_ret;refine⟨a4,c4,ps++[(a,G,D)],by simp,by rw[Qb];exact HR4.out,by rw[List.map_append,HMP.out,HAG.out];rfl,HB4.out⟩
    · have e1:(k==5)=false:=by simpa using hk
      have e2:(k !=5)=true:=by simpa using hk
      have HEQ:=hid (show Jc (.node k n l)=[]by rw[Zj6 n l hk]);have hE:=World.ownsRow_lit (base:=w.heap.size) (e:=27) (size:=3) (w.alloc (.cells #[.int .i64 k,.int .i64 n,.slice A l.length cap] 27)) #[] 0 (by simp) (by decide) rfl;have HE:=hid hE;clear ih h hg hk hE;rw[Jk];go_enter func67,ntmps67;go_wp2_with fail;go_ret;refine⟨_,_,[],rfl,⟨?_,fun b hb=>⟨by simp;omega,fun e=>by simp[Qz]at e;omega⟩,fun _ h=>by cases h⟩,HEQ.out.symm,HW2.out _ _⟩;have:=HE.out;simpa [Zu]using this
theorem Bk.same {w:World}{g:Nat}{e e':TypeId}{cs cs':Array Value}(h:Bk w g e cs)(h':Bk w g e' cs'):cs=cs':=by
 have h1:w.heap[g]? =_:=h;have h2:w.heap[g]? =_:=h';rw[h1]at h2;injection h2 with h2;injection h2
theorem Zlh {w:World}{g lo hi:Nat}{u v:TM}{A B:Option Addr}{c d:Nat}(h1:Bk w g 27 #[.int .i64 u.k,.int .i64 u.n,.slice A u.l.length c])(h2:Za w lo hi u A c)
    (h3:Bk w g 27 #[.int .i64 v.k,.int .i64 v.n,.slice B v.l.length d]) (h4:Za w lo hi v B d):v=u:=by
  have e:=congrArg Array.toList (h1.same h3);simp only[List.cons.injEq,Value.int.injEq,Value.slice.injEq,true_and,and_true]at e;obtain⟨e1,e2,e3,e4,e5⟩:=e;subst e3;exact Zd.unique h2 h4 e1.symm e2.symm e4.symm
def Z3o (t:TM)(w:World)(lo hi:Nat)(sv:Value)(wr:World):Prop:=
 ∃(u:TM) (A:Option Addr) (c:Nat),Below w.heap.size w wr∧Bk wr w.heap.size 27 #[.int .i64 u.k,.int .i64 u.n,.slice A u.l.length c]∧Bk wr (w.heap.size+1) 27 #[.int .i64 0,.int .i64 0,.slice none 0 0]∧
  Za wr lo hi u A c∧Zg u=true∧Zaw u=Zaw t
def Z54 (u:TM)(lo hi:Nat)(w:World)(e:Ending)(w':World):Prop:=∃A cap,e= .returned (Zc u A cap)∧Za w' lo hi u A cap∧Below w.heap.size w w'
theorem Z0n (t:TM)(lo hi:Nat)(A:Option Addr)(cap:Nat)(w:World)(h:Za w lo hi t A cap)(hhi:hi≤w.heap.size)(hg:Zg t=true):
    Calls prog 68 #[Zc t A cap] w (Z54 (Zaw t) lo hi w):=by
  have HT:=hid h;have HG:=hid hg;have HHI:=hid hhi;clear h hg hhi;unfold Zc;go_enter func68,ntmps68;go_wp2_with fail;go_loopw [3] (Z3o t w lo hi) (fun _ wr=>(@Qu TM ⟨.node 0 0 []⟩ (fun u=>∃A c,Bk wr w.heap.size 27 #[.int .i64 u.k,.int .i64 u.n,.slice A u.l.length c]∧Za wr lo hi u A c)).depth)
  case atStart=>
    exact⟨t,A,cap,((Qs w.heap.size w).alloc Zgq _).alloc (by simp) _,(Bk.new w 27 _).alloc _,Bk.last _ _ _ (by simp),(HT.out.alloc HHI.out _).alloc (by have:=HHI.out;simp;omega) _,HG.out,rfl⟩
  case round=>
    obtain⟨u,A1,c1,hB,b1,b2,hu,hgu,hhd⟩:=hrel;have hz:=hB.size;have HB1:=hid b1;have HB2:=hid b2;have HU:=hid hu;have HBB:=hid hB;have HHD:=hid hhd;obtain⟨k,n,l⟩:=u;have hdep:∀(wr':World) (v:TM) (B:Option Addr) (d:Nat),Bk wr' w.heap.size 27 #[.int .i64 v.k,.int .i64 v.n,.slice B v.l.length d]→Za wr' lo hi v B d→
        (@Qu TM ⟨.node 0 0 []⟩ (fun u=>∃A c,Bk wr' w.heap.size 27 #[.int .i64 u.k,.int .i64 u.n,.slice A u.l.length c]∧Za wr' lo hi u A c))=v:=fun wr' v B d h1 h2=>by
      obtain⟨A',c',q1,q2⟩:=Qv (p:=fun u=>∃A c,Bk wr' w.heap.size 27 #[.int .i64 u.k,.int .i64 u.n,.slice A u.l.length c]∧Za wr' lo hi u A c) ⟨v,B,d,h1,h2⟩;exact Zlh h1 h2 q1 q2
    have HDEP:=hid hdep;obtain⟨y0,y1,y2,yl⟩:=(Z8.of b1:Z8 wr w.heap.size k n (.slice A1 l.length c1));clear b1 b2 hu hhd hdep;by_cases hk:k=5
    · subst hk;obtain⟨f,a,rfl,rfl,hf,ha⟩:=Zh9 hgu;obtain⟨bk,o,F,C,hA,hb1,hb2,hx,hnode⟩:=HU.out.sub 0 (by simp);subst hA;obtain⟨x0',x1',x2'⟩:=hx;simp only[Qc,Qo,Qm]at x0' x1' x2' hnode;have HNO:=hid hnode;have hbw:bk<wr.heap.size:=by have:=HHI.out;omega
      have hfz:∀q,wr.frozen? ⟨w.heap.size,q,none⟩=false:=fun q=>HB1.out.cold q;have hne:bk≠w.heap.size:=by have:=HHI.out;omega
      have HF:=hid hf;have HH2:=hid (show Zaw f=Zaw t by rw[←HHD.out,Zm1]);have HKB:=hid (show Bk (((wr.setCell ⟨w.heap.size,0,none⟩ (.int .i64 f.k)).setCell ⟨w.heap.size,1,none⟩ (.int .i64 f.n)).setCell ⟨w.heap.size,2,none⟩ (.slice F f.l.length C)) w.heap.size 27 #[.int .i64 f.k,.int .i64 f.n,.slice F f.l.length C]from((HB1.out.at_ 0 (.int .i64 f.k)).at_ 1 (.int .i64 f.n)).at_ 2 (.slice F f.l.length C));have HKT:=hid (show Za (((wr.setCell ⟨w.heap.size,0,none⟩ (.int .i64 f.k)).setCell ⟨w.heap.size,1,none⟩ (.int .i64 f.n)).setCell ⟨w.heap.size,2,none⟩ (.slice F f.l.length C)) lo hi f F C from HNO.out.imp (fun b o h1 h2=>by
          have hne:∀o',(⟨w.heap.size,o',none⟩:Addr)≠⟨b,o,none⟩:=fun o' e=>by
            have h1:=congrArg Addr.block e;have h3:=HHI.out;simp at h1;omega
          rw[Qt _ _ _ _ (hne _),Qt _ _ _ _ (hne _),Qt _ _ _ _ (hne _)]) Zgq Zgq)
      have HLESS:=hid (show f.depth<(TM.node 5 0 [f,a]).depth by rw[J0,J7];omega);have HU0:=hid (HDEP.out wr (.node 5 0 [f,a]) _ c1 HB1.out HU.out);have HU1:=hid (HDEP.out (((wr.setCell ⟨w.heap.size,0,none⟩ (.int .i64 f.k)).setCell ⟨w.heap.size,1,none⟩ (.int .i64 f.n)).setCell ⟨w.heap.size,2,none⟩ (.slice F f.l.length C)) f F C HKB.out HKT.out);clear hgu hf ha hnode HHD;simp only[Qe,Qf]at y2;go_wp2_with fail;go_roundw
      case rel=>
        exact⟨f,F,C,((HBB.out.setCell (by simp) _).setCell (by simp) _).setCell (by simp) _,HKB.out,((HB2.out.far (by simp) _).far (by simp) _).far (by simp) _,HKT.out,HF.out,HH2.out⟩
      case measure=>
        rw[HU0.out,HU1.out];exact HLESS.out
    · have e1:(k==5)=false:=by simpa using hk
      have hfz:∀q,wr.frozen? ⟨w.heap.size+1,q,none⟩=false:=fun q=>HB2.out.cold q;have d0:wr.cell? ⟨w.heap.size+1,0,none⟩=some (.int .i64 0):=HB2.out.cell 0;have d1:wr.cell? ⟨w.heap.size+1,1,none⟩=some (.int .i64 0):=HB2.out.cell 1;have d2:wr.cell? ⟨w.heap.size+1,2,none⟩=some (.slice none 0 0):=HB2.out.cell 2;have B5:=((HB2.out.at_ 0 (.int .i64 k)).at_ 1 (.int .i64 n)).at_ 2 (.slice A1 l.length c1);have HS0:=hid (B5.cell 0);have HS1:=hid (B5.cell 1);have HS2:=hid (B5.cell 2);have HEQ:=hid (show Zaw t= .node k n l by rw[←HHD.out,Zm2 n l hk]);clear B5 hk hgu;go_wp2_with fail;refine bodyPost_ret (v:= .agg #[.int .i64 k,.int .i64 n,.slice A1 l.length c1]) (by simp[results,results68,go_sem,HS0.out,HS1.out,HS2.out]) rfl ?_;rw[HEQ.out];refine⟨A1,c1,rfl, ?_,((HBB.out.setCell (by simp) _).setCell (by simp) _).setCell (by simp) _⟩;exact HU.out.imp (fun b o h1 h2=>by
        have hne:∀o',(⟨w.heap.size+1,o',none⟩:Addr)≠⟨b,o,none⟩:=fun o' e=>by
          have h1:=congrArg Addr.block e;have h3:=HHI.out;simp at h1;omega
        rw[Qt _ _ _ _ (hne _),Qt _ _ _ _ (hne _),Qt _ _ _ _ (hne _)]) Zgq Zgq
theorem Zxn {w:World}{base:Nat}{a:Option Addr}{c:Nat}{ps:List (TM×Option Addr×Nat)}{P:Nat→Prop}(h:Zk w base 27 (.slice a ps.length c) ps P)(h0:0<ps.length):
  ∃g,a=some ⟨g,0,none⟩∧base≤g∧g<w.heap.size∧ ¬ P g∧∀j r (hj:j<ps.length),r<3→w.cell? ⟨g,j*3+r,none⟩=(Zq ps[j])[r]? :=by
 obtain⟨g,c',hv,_,_⟩:=h.row.form h0;injection hv with hv _ _;subst hv;have hb:=h.row.lt g rfl;refine⟨g,rfl,hb.1,hb.2,fun hp=>(h.far g hp).2 rfl,fun j r hj hr=> ?_⟩;exact(h.row.cellAt (j*3+r) (by omega)).trans (Zes ps j r hj hr)
theorem Zlj (p:TM×Option Addr×Nat):(Zq p).length=3:=rfl
theorem Zxo {w:World}{base:Nat}{a:Option Addr}{c:Nat}{ps:List (TM×Option Addr×Nat)}{P:Nat→Prop}(h:Zk w base 27 (.slice a ps.length c) ps P){g:Nat}(ha:a=some ⟨g,0,none⟩)
    (hc:∀j r (hj:j<ps.length),r<3→w.cell? ⟨g,j*3+r,none⟩=(Zq ps[j])[r]?):HoldsK Zq 3 w g 0 ps.toArray:=by
  intro t ht;rw[size_flatK]at ht;have ht2:t<ps.length*3:=by simpa using ht
  have hj:t/3<ps.length:=by omega
  rw[get_flatK _ _ _ _ ht,Ql];have h1:=hc (t/3) (t % 3) hj (by omega);have e:t/3*3+t % 3=t:=by omega
  rw[e]at h1;refine⟨?_,Ztl h.row g (by rw[ha];rfl) t⟩;rw[h1];have h2:t % 3<(Zq ps[t/3]).length:=by rw[Zlj];omega
  rw[Qa h2,getElem!_pos ps.toArray (t/3) (by simpa using hj)];simp only[Qi,id];rw[getElem!_pos (Zq ps[t/3]) (t % 3) h2]
theorem Zvy {w:World}{base:Nat}{a:Option Addr}{c:Nat}{ps:List (TM×Option Addr×Nat)}{P:Nat→Prop}(h:Zk w base 27 (.slice a ps.length c) ps P)(hb:base≤w.heap.size)(hl:ps.length≤8192):
  Calls prog 132 #[.slice a ps.length c] w fun e w'=>e= .returned (.tuple #[])∧Zd w' (fun b=>(P b∨a=some ⟨b,0,none⟩)∧b<w'.heap.size) (.node 0 0 (ps.map (·.1)).reverse) a c∧Below base w w':=by
 obtain⟨b1,b2⟩:=(h.parent (lo:=0) (Qn _) (fun _ _=>Qn _) 0 0).bounds;rw[Qd]at b1;by_cases h0:ps.length=0
 ·obtain rfl:=List.eq_nil_of_length_eq_zero h0;refine(AnyQ.slices_Reverse_empty Tryz.laysReverse a c w).mono ?_;rintro e w' ⟨rfl,rfl⟩;exact⟨rfl,Zd.mk 0 0 [] a c (fun _=>none) (fun _=>0) (by simp) b2 (fun h=>by simp at h) (fun i h=>by simp at h),Qs _ _⟩
 ·obtain⟨g,ha,g1,g2,g3,g4⟩:=Zxn h (by omega);have hH:=Zxo h ha g4;subst ha;have hsz:ps.toArray.size=ps.length:=by simp
  have hr:=AnyQ.slices_Reverse Tryz.laysReverse 3 (fun w=>Tryz.isAgg27 w) (fun w=>Tryz.sizeOf27 w) Zq Zlj Jx g 0 c ps.toArray w hH (by omega);rw[hsz]at hr;refine hr.mono ?_;rintro e w' ⟨rfl,q,rfl⟩;have hH2:HoldsK Zq 3 (putRowK Zq 3 (Qx w q) g 0 ps.toArray.reverse) g 0 ps.toArray.reverse:=holdsK_putRowK (enc:=Zq) (k:=3) (w:=Qx w q) (blk:=g) (off:=0) (d0:=ps.toArray) (d:=ps.toArray.reverse) (h0:=holdsK_ahead (enc:=Zq) (k:=3) (w:=w) (n:=q) (blk:=g) (off:=0) (d:=ps.toArray) (h:=hH)) (hs:=by simp);have hsz2:(putRowK Zq 3 (Qx w q) g 0 ps.toArray.reverse).heap.size=w.heap.size:=by simp[putRowK,putRow,mapBlock,Qx]
  have hoth:∀b o,b≠g→(putRowK Zq 3 (Qx w q) g 0 ps.toArray.reverse).cell? ⟨b,o,none⟩=w.cell? ⟨b,o,none⟩:=fun b o hb=>cell?_putRowK_other (enc:=Zq) (k:=3) (w:=Qx w q) (blk:=g) (off:=0) (d:=ps.toArray.reverse) (a:=⟨b,o,none⟩) (h:=hb);refine⟨rfl, ?_,Lib.below_putRow (enc:=id) (Qs base w) g1⟩;obtain⟨W,hW⟩:∃W,putRowK Zq 3 (Qx w q) g 0 ps.toArray.reverse=W:=⟨_,rfl⟩;rw[hW]at hH2 hsz2 hoth⊢;have hrl:(ps.map (·.1)).reverse.length=ps.length:=by simp
  have hget:∀i (hi:i<ps.length),(ps.map (·.1)).reverse[i]'(by rw[hrl];exact hi)=(ps[ps.length - 1 - i]'(by omega)).1:=fun i hi=>by
   rw[List.getElem_reverse,List.getElem_map];simp
  refine Zd.mk 0 0 _ _ c (fun i=>(ps[ps.length - 1 - i]?.map fun p=>p.2.1).getD none) (fun i=>(ps[ps.length - 1 - i]?.map fun p=>p.2.2).getD 0) (by rw[hrl];exact b1) b2 (fun _=>⟨g,0,rfl,⟨.inr rfl,by omega⟩,fun i hi=> ?_⟩) (fun i hi=> ?_)
  ·have hi':i<ps.length:=by rw[hrl]at hi;exact hi
   have hx:∀r,r<3→W.cell? ⟨g,i*3+r,none⟩=(Zq (ps[ps.length - 1 - i]'(by omega)))[r]? :=fun r hr=>by
    have ht:i*3+r<ps.toArray.reverse.size*3:=by simp;omega
    have h1:=(hH2 (i*3+r) (by rw[size_flatK];exact ht)).1;rw[get_flatK _ _ _ _ ht,Ql]at h1;have e1:(i*3+r)/3=i:=by omega
    have e2:(i*3+r) % 3=r:=by omega
    rw[e1,e2,getElem!_pos ps.toArray.reverse i (by simpa using hi')]at h1;rw[h1];have h2:r<(Zq (ps[ps.length - 1 - i]'(by omega))).length:=by rw[Zlj];exact hr
    rw[Qa h2];simp only[Array.getElem_reverse,Qi,id,List.size_toArray];rw[getElem!_pos _ r h2]
   rw[hget i hi',Qa (show ps.length - 1 - i<ps.length by omega)];have x0:=hx 0 (by omega);rw[Qm]at x0;exact⟨by rw[Ql,x0];rfl,by rw[Ql,hx 1 (by omega)];rfl,by rw[Ql,hx 2 (by omega)];rfl⟩
  ·have hi':i<ps.length:=by rw[hrl]at hi;exact hi
   rw[hget i hi',Qa (show ps.length - 1 - i<ps.length by omega)];exact(h.node _ (List.getElem_mem _)).imp (fun b o hq=>hoth b o (fun e=>g3 (e ▸ hq))) (fun b hq=>⟨.inl hq,by have:=(h.far b hq).1;omega⟩)
def Zst (t:TM)(w:World)(lo hi:Nat)(sv:Value)(wr:World):Prop:=
 ∃(u:TM) (A:Option Addr) (c:Nat) (a3:Option Addr) (c3:Nat) (ps:List (TM×Option Addr×Nat)),sv= .slice a3 ps.length c3∧Below w.heap.size w wr∧Bk wr w.heap.size 27 #[.int .i64 u.k,.int .i64 u.n,.slice A u.l.length c]∧Bk wr (w.heap.size+1) 27 #[.int .i64 0,.int .i64 0,.slice none 0 0]∧
  Zk wr (w.heap.size+2) 27 (.slice a3 ps.length c3) ps (fun b=>lo≤b∧b<hi)∧Za wr lo hi u A c∧Zg u=true∧Zaw u=Zaw t∧Jc t=Jc u++(ps.map (·.1)).reverse
def Znw (t:TM)(w:World)(e:Ending)(w':World):Prop:=
 ∃A c B d,e= .returned (.tuple #[Zc (Zaw t) A c,.slice B (Jc t).length d])∧Za w' 0 w'.heap.size (Zaw t) A c∧Ze w' 0 w'.heap.size (Jc t) B d∧Below w.heap.size w w'
def Zjm (lo hi:Nat)(t:TM)(w:World)(e:Ending)(w':World):Prop:=
 ∃A c B d,e= .returned (.tuple #[Zc (Zaw t) A c,.slice B (Jc t).length d])∧Za w' 0 w'.heap.size (Zaw t) A c∧Zd w' (fun b=>((lo≤b∧b<hi)∨w.heap.size≤b)∧b<w'.heap.size) (.node 0 0 (Jc t)) B d∧Below w.heap.size w w'
theorem Zjm.plain {lo hi:Nat}{t:TM}{w w':World}{e:Ending}(h:Zjm lo hi t w e w'):Znw t w e w':=by
 obtain⟨A,c,B,d,h1,h2,h3,h4⟩:=h;exact⟨A,c,B,d,h1,h2,h3.imp (fun _ _ _=>rfl) (fun b hb=>⟨Qn _,hb.2⟩),h4⟩
theorem Zqd (t:TM)(lo hi:Nat)(A:Option Addr)(cap:Nat)(w:World)(h:Za w lo hi t A cap)(hhi:hi≤w.heap.size)(hS:Zi w)(hg:Zg t=true)(hsz:t.size≤8192)(hdp:t.depth≤1000):
    Calls prog 110 #[Zc t A cap] w (Zjm lo hi t w):=by
  obtain⟨i0,hi0,hz0,hz1,hz2⟩:=info_parts Zc9;have hc:Jv t.size≤8192:=by unfold Jv;omega
  have HC:=hid (fun V (hV:Below w.heap.size w V)=>Zrw t lo hi A cap V (h.kept hV hhi) (by have:=hV.size;omega));have hcd:decide ((8192:Int)<((Jv t.size:Nat):Int))=false:=by simp;omega
  have HT:=hid h;have HG:=hid hg;have HHI:=hid hhi;have HS:=hid hS;have HLN:=hid (Qq (Zg5 t hg) hdp);clear h hg hhi hS hsz hdp hc;unfold Zc;unfold Zc at HC;have HWA:=hid (fun o1 o2=>((Qs w.heap.size w).alloc Zgq o1).alloc (by simp) o2);go_enter func110,ntmps110;go_wp2_with fail;refine(HC.out _ (HWA.out _ _)).mono ?_;rintro e w1 ⟨rfl,hb1⟩;have hB1:=(HWA.out _ _).trans (hb1.mono (by simp;omega));have HB1:=hid hB1;have HK1:=hid (show Bk w1 w.heap.size 27 #[.int .i64 t.k,.int .i64 t.n,.slice A t.l.length cap]from((Bk.new w 27 _).alloc _).below hb1 (by simp;omega));have HK2:=hid (show Bk w1 (w.heap.size+1) 27 #[.int .i64 0,.int .i64 0,.slice none 0 0]from(Bk.last (w.alloc (.cells #[.int .i64 t.k,.int .i64 t.n,.slice A t.l.length cap] 27)) 27 _ (by simp)).below hb1 (by simp));have HZ1:=hid (show w.heap.size+2≤w1.heap.size from by have:=hb1.size;simp at this;omega);clear HWA HC hB1 hb1;go_wp2_with fail;go_loopw [4] (Zst t w lo hi) (fun _ wr=>(@Qu TM ⟨.node 0 0 []⟩ (fun u=>∃A c,Bk wr w.heap.size 27 #[.int .i64 u.k,.int .i64 u.n,.slice A u.l.length c]∧Za wr lo hi u A c)).depth)
  case atStart=>
    have hh:=HHI.out;have hz:=HZ1.out;exact⟨t,A,cap,none,0,[],rfl,HB1.out,HK1.out,HK2.out,⟨World.ownsRow_nil _ _ _ _,fun b hb=>⟨by omega,by simp[Qz]⟩,fun _ h=>by cases h⟩,HT.out.kept HB1.out hh,HG.out,rfl,by simp⟩
  case round=>
    obtain⟨u,A1,c1,a3,c3,ps,rfl,hB,b1,b2,hrow,hu,hgu,hhd,har⟩:=hrel;have hz:=hB.size;have HB1:=hid b1;have HB2:=hid b2;have HU:=hid hu;have HBB:=hid hB;have HHD:=hid hhd;have HAR:=hid har;have HROW:=hid hrow;have hlt2:=b2.lt;obtain⟨k,n,l⟩:=u;have CAP:=hid (fun V (hV:Below wr.heap.size wr V)=>Zt9 k n l lo hi A1 c1 V (hu.kept hV (by have:=HHI.out;omega)) (by have:=hV.size;have:=HHI.out;omega) ((HS.out.kept hB).kept hV) hgu);have hdep:∀(wr':World) (v:TM) (B:Option Addr) (d:Nat),Bk wr' w.heap.size 27 #[.int .i64 v.k,.int .i64 v.n,.slice B v.l.length d]→Za wr' lo hi v B d→
        (@Qu TM ⟨.node 0 0 []⟩ (fun u=>∃A c,Bk wr' w.heap.size 27 #[.int .i64 u.k,.int .i64 u.n,.slice A u.l.length c]∧Za wr' lo hi u A c))=v:=fun wr' v B d h1 h2=>by
      obtain⟨A',c',q1,q2⟩:=Qv (p:=fun u=>∃A c,Bk wr' w.heap.size 27 #[.int .i64 u.k,.int .i64 u.n,.slice A u.l.length c]∧Za wr' lo hi u A c) ⟨v,B,d,h1,h2⟩;exact Zlh h1 h2 q1 q2
    have HDEP:=hid hdep;obtain⟨y0,y1,y2,yl⟩:=(Z8.of b1:Z8 wr w.heap.size k n (.slice A1 l.length c1));clear b1 b2 hu hhd har hdep hrow;by_cases hk:k=5
    · subst hk;obtain⟨f,a,rfl,rfl,hf,ha⟩:=Zh9 hgu;obtain⟨bk,o,F,C,hA,hb1,hb2,hx,hnode⟩:=HU.out.sub 0 (by simp);obtain⟨bk2,o2,G,D,hA2,_,_,hy,hnode2⟩:=HU.out.sub 1 (by simp);subst hA;obtain⟨rfl,rfl⟩:bk=bk2∧o=o2:=by
        injection hA2 with q;injection q with q1 q2;exact⟨q1,q2⟩
      simp only[Qc,Qg,Qo,Qm,Qr]at hx hy hnode hnode2;have HX:=hid hx;have HY:=hid hy;have HF:=hid hf;have HNO:=hid hnode;have HNO2:=hid hnode2;have e1:((5:Int)==5)=true:=rfl;simp only[Qe,Qf,Ql,Qp]at y2 CAP;clear hx hy hnode hnode2 hgu hf ha hA2;go_wp2_with fail;refine(CAP.out _ (Qs _ _)).mono ?_;rintro e w2 ⟨rfl,hb2⟩;have hbw:bk<wr.heap.size:=by have:=HHI.out;omega
      have hbw2:bk<w2.heap.size:=by have:=hb2.size;omega
      have K1:=HB1.out.below hb2 (by omega);have HK:=hid K1;have HK2':=hid (HB2.out.below hb2 (by omega));have HBW:=hid (HBB.out.trans (hb2.mono hz));have HROW2:=hid (show Zk w2 (w.heap.size+2) 27 (.slice a3 ps.length c3) ps (fun b=>lo≤b∧b<hi)from HROW.out.below hb2);have HNOA:=hid (HNO.out.kept hb2 (by have:=HHI.out;omega));have HNOB:=hid (HNO2.out.kept hb2 (by have:=HHI.out;omega));obtain⟨x0,x1,x2⟩:=HX.out.kept hb2 hbw;obtain⟨z0,z1,z2⟩:=HY.out.kept hb2 hbw;have HZA:=hid (Qw x0 (Qw x1 (Qw x2 (Qw z0 (Qw z1 z2)))));have d0:w2.cell? ⟨w.heap.size,0,none⟩=some (.int .i64 5):=K1.cell 0;have d1:w2.cell? ⟨w.heap.size,1,none⟩=some (.int .i64 0):=K1.cell 1;have d2:w2.cell? ⟨w.heap.size,2,none⟩=some (.slice (some ⟨bk,o,none⟩) 2 c1):=K1.cell 2;have HXX:=hid (Qw hbw2 (Qw x0 (Qw x1 (Qw x2 HK2'.out))));have hpl:ps.length≤1000:=by
        have h1:=congrArg Qh HAR.out;rw[Qb,Qj,Qd]at h1;have h2:=HLN.out;omega
      have hz5:=hb2.size;have HH2:=hid (show Zaw f=Zaw t by rw[←HHD.out,Zm1]);have HA2:=hid (show Jc t=Jc f++((ps++[(a,G,D)]).map (·.1)).reverse by rw[HAR.out,Zj5];simp);have HLESS:=hid (show f.depth<(TM.node 5 0 [f,a]).depth by rw[J0,J7];omega);have HU0:=hid (HDEP.out wr (.node 5 0 [f,a]) _ c1 HB1.out HU.out);have HFIN:Hid (∀(v4:Value) (w4:World),Zfa (w2.alloc (.cells #[.int .i64 a.k,.int .i64 a.n,.slice G a.l.length D] 27)) (w.heap.size+2) 27 3 (.slice a3 ps.length c3) (ps.length+1) (Zu ps++Zq (a,G,D)) v4 w4→
          ∃a4 c4,v4= .slice a4 (ps++[(a,G,D)]).length c4∧Bk w4 w.heap.size 27 #[.int .i64 5,.int .i64 0,.slice (some ⟨bk,o,none⟩) 2 c1]∧
          (w4.cell? ⟨bk,o,none⟩=some (.int .i64 f.k)∧w4.cell? ⟨bk,o+1,none⟩=some (.int .i64 f.n)∧w4.cell? ⟨bk,o+2,none⟩=some (.slice F f.l.length C))∧
          Hid (Zst t w lo hi (.slice a4 (ps++[(a,G,D)]).length c4) (((w4.setCell ⟨w.heap.size,0,none⟩ (.int .i64 f.k)).setCell ⟨w.heap.size,1,none⟩ (.int .i64 f.n)).setCell ⟨w.heap.size,2,none⟩ (.slice F f.l.length C))∧(@Qu TM ⟨.node 0 0 []⟩ (fun u=>∃A c,Bk (((w4.setCell ⟨w.heap.size,0,none⟩ (.int .i64 f.k)).setCell ⟨w.heap.size,1,none⟩ (.int .i64 f.n)).setCell ⟨w.heap.size,2,none⟩ (.slice F f.l.length C)) w.heap.size 27 #[.int .i64 u.k,.int .i64 u.n,.slice A u.l.length c]∧Za (((w4.setCell ⟨w.heap.size,0,none⟩ (.int .i64 f.k)).setCell ⟨w.heap.size,1,none⟩ (.int .i64 f.n)).setCell ⟨w.heap.size,2,none⟩ (.slice F f.l.length C)) lo hi u A c)).depth<(@Qu TM ⟨.node 0 0 []⟩ (fun u=>∃A c,Bk wr w.heap.size 27 #[.int .i64 u.k,.int .i64 u.n,.slice A u.l.length c]∧Za wr lo hi u A c)).depth)):=hid (by
        intro v4 w4 ha4;have hrw:=HROW2.out.alloc (.cells #[.int .i64 a.k,.int .i64 a.n,.slice G a.l.length D] 27);have hlt0:=hrw.row.lt;have hfar:=hrw.far;have hhi:=HHI.out;have hne:∀g,g<w.heap.size+2→some g≠(Qy a3 ps.length c3).ownBlock:=fun g hg e=>by have:=(hlt0 g e.symm).1;omega
        have hsa:(w2.alloc (.cells #[.int .i64 a.k,.int .i64 a.n,.slice G a.l.length D] 27)).heap.size=w2.heap.size+1:=by simp
        have K1:Bk w4 w.heap.size 27 _:=(HK.out.alloc (.cells #[.int .i64 a.k,.int .i64 a.n,.slice G a.l.length D] 27)).grown ha4.2.1 (hne _ (by omega));have K2:Bk w4 (w.heap.size+1) 27 _:=(HXX.out.2.2.2.2.alloc (.cells #[.int .i64 a.k,.int .i64 a.n,.slice G a.l.length D] 27)).grown ha4.2.1 (hne _ (by omega));have hbx:=HXX.out;have hB4:Below w.heap.size w w4:=(HBW.out.alloc (by omega) (.cells #[.int .i64 a.k,.int .i64 a.n,.slice G a.l.length D] 27)).grown ha4.2.1 (by omega) (fun g e=>by have:=(hlt0 g e).1;omega);have hcell:∀b o,b<w2.heap.size→some b≠(Qy a3 ps.length c3).ownBlock→w4.cell? ⟨b,o,none⟩=w2.cell? ⟨b,o,none⟩:=fun b o hb h1=>
          (ha4.2.1.cell_far ⟨b,o,none⟩ (by show b<_;omega) h1).trans ((Qs w2.heap.size w2).alloc Zgq (.cells #[.int .i64 a.k,.int .i64 a.n,.slice G a.l.length D] 27)|>.cell (p:=⟨b,o,none⟩) hb)
        obtain⟨a4,c4,rfl⟩:=Zl ha4.1;have hf4:Za w4 lo hi f F C:=HNOA.out.imp (fun b o h1 h2=>hcell b o (by omega) (hne b (by omega))) Zgq Zgq;have hp:=hrw.push (Pn:=fun b=>lo≤b∧b<hi) (p:=(a,G,D)) (HNOB.out.kept ((Qs w2.heap.size w2).alloc Zgq (.cells #[.int .i64 a.k,.int .i64 a.n,.slice G a.l.length D] 27)) (by omega)) (fun b hb=>⟨by omega,fun e=>hne b (by omega) e.symm⟩) ha4.1 ha4.2.1 ha4.2.2;have hp2:Zk w4 (w.heap.size+2) 27 (.slice a4 (ps++[(a,G,D)]).length c4) (ps++[(a,G,D)]) (fun b=>lo≤b∧b<hi):=by
          have e:(ps++[(a,G,D)]).length=ps.length+1:=by simp
          rw[e];exact⟨hp.row,fun b hb=>hp.far b (.inl hb),fun p hp'=>(hp.node p hp').imp (fun _ _ _=>rfl) (fun b hb=>hb.elim id id)⟩
        have hlt4:=hp2.row.lt;have hq:(Qy a4 (ps++[(a,G,D)]).length c4).ownBlock=none∨(Qy a4 (ps++[(a,G,D)]).length c4).ownBlock≠some w.heap.size:=by
          refine .inr fun e=> ?_;have:=(hlt4 _ e).1;omega
        have hq2:∀b,(lo≤b∧b<hi)→some b≠some w.heap.size:=fun b hb e=>by injection e with e;omega
        have hp3:=((hp2.over (Zke w4 w.heap.size 0 (.int .i64 f.k)) hq hq2).over (Zke _ w.heap.size 1 (.int .i64 f.n)) hq hq2).over (Zke _ w.heap.size 2 (.slice F f.l.length C)) hq hq2;have KB:Bk (((w4.setCell ⟨w.heap.size,0,none⟩ (.int .i64 f.k)).setCell ⟨w.heap.size,1,none⟩ (.int .i64 f.n)).setCell ⟨w.heap.size,2,none⟩ (.slice F f.l.length C)) w.heap.size 27 #[.int .i64 f.k,.int .i64 f.n,.slice F f.l.length C]:=((K1.at_ 0 (.int .i64 f.k)).at_ 1 (.int .i64 f.n)).at_ 2 (.slice F f.l.length C);have KT:Za (((w4.setCell ⟨w.heap.size,0,none⟩ (.int .i64 f.k)).setCell ⟨w.heap.size,1,none⟩ (.int .i64 f.n)).setCell ⟨w.heap.size,2,none⟩ (.slice F f.l.length C)) lo hi f F C:=Zd.three hf4 (fun b hb e=>by omega) _ _ _;refine⟨a4,c4,by simp,K1,⟨(hcell _ _ hbx.1 (hne _ (by omega))).trans hbx.2.1,(hcell _ _ hbx.1 (hne _ (by omega))).trans hbx.2.2.1,(hcell _ _ hbx.1 (hne _ (by omega))).trans hbx.2.2.2.1⟩,⟨f,F,C,a4,c4,ps++[(a,G,D)],rfl, ?_,KB, ?_,hp3,KT,HF.out,HH2.out,HA2.out⟩, ?_⟩
        · exact((hB4.setCell (by simp) _).setCell (by simp) _).setCell (by simp) _
        · exact((K2.far (by simp) _).far (by simp) _).far (by simp) _
        · rw[HU0.out,HDEP.out (((w4.setCell ⟨w.heap.size,0,none⟩ (.int .i64 f.k)).setCell ⟨w.heap.size,1,none⟩ (.int .i64 f.n)).setCell ⟨w.heap.size,2,none⟩ (.slice F f.l.length C)) f F C KB KT];exact HLESS.out)
      have HSRC:=hid (show Src (w2.alloc (.cells #[.int .i64 a.k,.int .i64 a.n,.slice G a.l.length D] 27)) 3 (some ⟨w2.heap.size,0,none⟩) 1 (Zq (a,G,D))from Zai _ _ _ rfl rfl);clear K1 HAR HHD HU HDEP HBB HX HY HB1 HB2 HU0 HLESS HNO HNO2 e1;go_wp2_with (at_builtin;refine Jb rfl (.tmp 11) (.tmp 16) 23 rfl (w.heap.size+2) 27 i0 (.agg #[.int .i64 0,.int .i64 0,.slice none 0 0]) 3 40 Tryz.underlying23 hi0 hz0 hz1 hz2 rfl (by decide) (.slice a3 ps.length c3) ps.length (Zu ps) rfl (HROW2.out.alloc _).row (some ⟨w2.heap.size,0,none⟩) 1 1 (Zq (a,G,D)) rfl HSRC.out (Jx _) (by unfold maxLen;omega) (by omega) (by have:=HBW.out.size;simp;omega) ?_)
      rintro v4 w4 ha4;obtain⟨a4,c4,rfl,K4,⟨x0,x1,x2⟩,HR⟩:=HFIN.out _ _ ha4;have hfz:∀q,w4.frozen? ⟨w.heap.size,q,none⟩=false:=fun q=>K4.cold q;have d0:w4.cell? ⟨w.heap.size,0,none⟩=some (.int .i64 5):=K4.cell 0;have d1:w4.cell? ⟨w.heap.size,1,none⟩=some (.int .i64 0):=K4.cell 1;have d2:w4.cell? ⟨w.heap.size,2,none⟩=some (.slice (some ⟨bk,o,none⟩) 2 c1):=K4.cell 2;clear ha4 K4 HFIN;go_wp2_with fail;go_roundw
      case rel=>exact HR.out.1
      case measure=>exact HR.out.2
    · have e1:(k==5)=false:=by simpa using hk
      have hpl:ps.length≤1000:=by
        have h1:=congrArg Qh HAR.out;rw[Qb,Qj,Qd]at h1;have h2:=HLN.out;omega
      have HEQ:=hid (show Zaw t= .node k n l by rw[←HHD.out,Zm2 n l hk]);have HAQ:=hid (show Jc t=(ps.map (·.1)).reverse by rw[HAR.out,Zj6 n l hk];rfl);have hlq:(Jc t).length=ps.length:=by rw[HAQ.out];simp
      have HLQ:=hid hlq;clear hk hgu HAR HHD HDEP hlq;go_wp2_with fail;refine(CAP.out _ (Qs _ _)).mono ?_;rintro e w2 ⟨rfl,hb2⟩;have hzz:=hb2.size;have K1:=HB1.out.below hb2 (by omega);have K2:=HB2.out.below hb2 (by omega);have HROW2:=hid (HROW.out.below hb2);have HCR:=hid (fun V (hV:Below w2.heap.size w2 V)=>Zvy (HROW2.out.below hV) (show w.heap.size+2≤V.heap.size from by have:=hV.size;omega) (by omega));have HAF:Hid (∀(V w3:World),Below w2.heap.size w2 V→Zd w3 (fun b=>((lo≤b∧b<hi)∨a3=some ⟨b,0,none⟩)∧b<w3.heap.size) (.node 0 0 (ps.map (·.1)).reverse) a3 c3→Below (w.heap.size+2) V w3→
          Bk w3 w.heap.size 27 #[.int .i64 k,.int .i64 n,.slice A1 l.length c1]∧Bk w3 (w.heap.size+1) 27 #[.int .i64 0,.int .i64 0,.slice none 0 0]∧
          Hid (Zjm lo hi t w (.returned (.tuple #[.agg #[.int .i64 k,.int .i64 n,.slice A1 l.length c1],.slice a3 ps.length c3])) (((w3.setCell ⟨w.heap.size+1,0,none⟩ (.int .i64 k)).setCell ⟨w.heap.size+1,1,none⟩ (.int .i64 n)).setCell ⟨w.heap.size+1,2,none⟩ (.slice A1 l.length c1)))):=hid (by
        intro V w3 hV hl3 hb3;have hhi:=HHI.out;have hVz:=hV.size;have hz3:=hb3.size;have hlt0:=HROW2.out.row.lt;have hbb:Below (w.heap.size+2) wr w3:=(hb2.mono (by omega)).trans ((hV.mono (by omega)).trans hb3);have J1:Bk w3 w.heap.size 27 _:=HB1.out.below hbb (by omega);have J2:Bk w3 (w.heap.size+1) 27 _:=HB2.out.below hbb (by omega);have hu3:Za w3 lo hi (.node k n l) A1 c1:=HU.out.kept hbb (by omega);refine⟨J1,J2, ?_⟩;have hlw:∀b,a3=some ⟨b,0,none⟩→b≠w.heap.size+1:=fun b e hb=>by
          subst e;have:=(hlt0 b rfl).1;omega
        refine⟨A1,c1,a3,c3,by rw[HEQ.out,HLQ.out];rfl, ?_, ?_,(((HBB.out.trans (hbb.mono (by omega))).setCell (by simp) _).setCell (by simp) _).setCell (by simp) _⟩
        · rw[HEQ.out];exact(Zd.three hu3 (fun b hb e=>by omega) _ _ _).imp (fun _ _ _=>rfl) (fun b hb=>⟨Qn _,by rw[Z2];omega⟩)
        · rw[HAQ.out];exact(Zd.three hl3 (fun b hb e=>by
            rcases hb.1 with h1|h1
            · omega
            · exact hlw b h1 e) _ _ _).imp (fun _ _ _=>rfl) (fun b hb=>⟨by
            rcases hb.1 with h1|h1
            · exact .inl h1
            · subst h1;have:=(hlt0 b rfl).1;exact .inr (by omega),by rw[Z2];exact hb.2⟩))
      clear K1 K2 HB1 HB2 HU HBB hb2 HROW y0 y1 y2 yl CAP HEQ HAQ HLQ HHI HT HG HS HK1 HK2 HZ1;go_wp2_with fail;refine(HCR.out _ (by first|exact Qs _ _|exact(Qs _ _).drew)).mono ?_;rintro e w3 ⟨rfl,hl3,hb3⟩;obtain⟨J1,J2,HR⟩:=HAF.out _ w3 (by first|exact Qs _ _|exact(Qs _ _).drew) hl3 hb3;have hfz:∀q,w3.frozen? ⟨w.heap.size+1,q,none⟩=false:=fun q=>J2.cold q;have d0:w3.cell? ⟨w.heap.size+1,0,none⟩=some (.int .i64 0):=J2.cell 0;have d1:w3.cell? ⟨w.heap.size+1,1,none⟩=some (.int .i64 0):=J2.cell 1;have d2:w3.cell? ⟨w.heap.size+1,2,none⟩=some (.slice none 0 0):=J2.cell 2;have q0:w3.cell? ⟨w.heap.size,0,none⟩=some (.int .i64 k):=J1.cell 0;have q1:w3.cell? ⟨w.heap.size,1,none⟩=some (.int .i64 n):=J1.cell 1;have q2:w3.cell? ⟨w.heap.size,2,none⟩=some (.slice A1 l.length c1):=J1.cell 2;have B5:=((J2.at_ 0 (.int .i64 k)).at_ 1 (.int .i64 n)).at_ 2 (.slice A1 l.length c1);have HS0:=hid (B5.cell 0);have HS1:=hid (B5.cell 1);have HS2:=hid (B5.cell 2);clear J1 J2 B5 HCR HAF hl3 hb3;go_wp2_with fail;refine bodyPost_ret (v:= .tuple #[.agg #[.int .i64 k,.int .i64 n,.slice A1 l.length c1],.slice a3 ps.length c3]) (by simp[results,results110,go_sem,HS0.out,HS1.out,HS2.out]) rfl ?_;exact HR.out
theorem Z0e (t:TM)(lo hi:Nat)(A:Option Addr)(cap:Nat)(w:World)(h:Za w lo hi t A cap)(hhi:hi≤w.heap.size)(hS:Zi w)(hg:Zg t=true)(hsz:t.size≤8192)(hdp:t.depth≤1000):
  Calls prog 110 #[Zc t A cap] w (Znw t w):=(Zqd t lo hi A cap w h hhi hS hg hsz hdp).mono fun _ _ h=>h.plain
