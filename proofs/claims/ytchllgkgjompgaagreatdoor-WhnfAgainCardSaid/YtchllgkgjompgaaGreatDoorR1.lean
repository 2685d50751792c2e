import Derived.Test.YtchllgkgjompgaaGreatDoorM1
import Derived.Test.YtchllgkgjompgaaGreatDoorM4
import Derived.Test.YtchllgkgjompgaaGreatDoorTLib
import Derived.Shelf.Spec.SlicesGrow
namespace Go.Proofs.YtchllgkgjompgaaGreatDoor
set_option maxHeartbeats 2000000
set_option maxRecDepth 100000
open Go.RowKit
set_option linter.unusedVariables false
open Lib(hid)
open Go.Proofs.Tryz
def Cold (w:World) (P:Nat→Prop):Prop:=∀b,P b→∀q,w.frozen? ⟨b,q,none⟩=false
theorem Cold.kept {w w':World} {P:Nat→Prop} (h:Cold w P) (hb:∀b,P b→w'.heap[b]? =w.heap[b]?):Cold w' P:=fun b hp q=>(World.frozen?_of_block (a:=⟨b,q,none⟩) (hb b hp)).trans (h b hp q)
theorem own_cold {w:World} {base:Nat} {e:TypeId} {size:Nat} {v:Value} {n:Nat} {xs:List Value} (h:w.ownsRow base e size v n xs):Cold w fun b=>v.ownBlock=some b:=by
 intro b hb q;rcases h.2 with ⟨rfl,_⟩|⟨g,cap,cur,rfl,_,hg,_⟩
 ·simp[Value.ownBlock]at hb
 ·have e:g=b:=by simpa [Value.ownBlock]using hb
  subst e;simp[World.frozen?,hg]
theorem IsTerm.setFar {w:World} {lo hi:Nat} {t:TM} {A:Option Addr} {cap:Nat} (h:IsTerm w lo hi t A cap) {a:Addr} (ha:a.block<lo) (u:Value):IsTerm (w.setCell a u) lo hi t A cap:=
 h.imp (fun b o h1 _=>World.cell?_setCell_other _ _ _ _ (fun e=>by
  have:=congrArg Addr.block e;simp at this;omega)) (Nat.le_refl _) (Nat.le_refl _)
inductive ZeroIn (w:World) (P:Nat→Prop):TM→Option Addr→Nat→Prop where
  | mk (k n:Int) (l:List TM) (A:Option Addr) (cap:Nat) (F:Nat→Option Addr) (C:Nat→Nat)
    (hl:l.length≤cap) (hm:cap≤maxLen)
    (hc:0<l.length→∃b,A=some ⟨b,0,none⟩∧P b∧∀i (h:i<l.length),Cells3 w b (i*3) l[i] (F i) (C i))
    (hn:∀i (h:i<l.length),ZeroIn w P l[i] (F i) (C i)):ZeroIn w P (.node k n l) A cap
theorem ZeroIn.term {w:World} {P:Nat→Prop} {t:TM} {A:Option Addr} {cap:Nat} (h:ZeroIn w P t A cap):TermIn w P t A cap:=by
 induction h with
 | mk k n l A cap F C hl hm hc _ ih=>
  refine .mk k n l A cap F C hl hm (fun h0=> ?_) ih;obtain⟨b,hA,hb,hx⟩:=hc h0;exact⟨b,0,hA,hb,fun i h=>by rw[Nat.zero_add];exact hx i h⟩
theorem ZeroIn.imp {w w':World} {P P':Nat→Prop} (hw:∀b o,P b→w'.cell? ⟨b,o,none⟩=w.cell? ⟨b,o,none⟩) (hP:∀b,P b→P' b) {t:TM} {A:Option Addr} {cap:Nat} (h:ZeroIn w P t A cap):ZeroIn w' P' t A cap:=by
 induction h with
 | mk k n l A cap F C hl hm hc _ ih=>
  refine .mk k n l A cap F C hl hm (fun h0=> ?_) ih;obtain⟨b,hA,hb,hx⟩:=hc h0;refine⟨b,hA,hP b hb,fun i h=> ?_⟩;obtain⟨x0,x1,x2⟩:=hx i h;exact⟨by rw[hw _ _ hb,x0],by rw[hw _ _ hb,x1],by rw[hw _ _ hb,x2]⟩
theorem TermRow.parentZ {w:World} {base:Nat} {e:TypeId} {A:Option Addr} {cap:Nat} {ps:List (TM×Option Addr×Nat)} {P Q:Nat→Prop} (h:TermRow w base e (.slice A ps.length cap) ps P) (hz:∀p∈ps,ZeroIn w P p.1 p.2.1 p.2.2) (hP:∀b,P b→Q b) (hQ:∀b,(Value.slice A ps.length cap).ownBlock=some b→Q b)
    (k n:Int):ZeroIn w Q (.node k n (ps.map (·.1))) A cap:=by
  have h0:=h.parent (lo:=0) (Nat.zero_le _) (fun _ _=>Nat.zero_le _) k n;obtain⟨hl,hm⟩:=h0.bounds;refine ZeroIn.mk k n _ A cap (fun i=>(ps[i]?.map fun p=>p.2.1).getD none) (fun i=>(ps[i]?.map fun p=>p.2.2).getD 0) hl hm (fun h0=> ?_) (fun i hi=> ?_)
  · have hi':0<ps.length:=by simpa using h0
    obtain⟨g,c,hv,_,_⟩:=h.row.form hi';injection hv with hv _ _;subst hv;refine⟨g,rfl,hQ g rfl,fun i hi=> ?_⟩;have hi':i<ps.length:=by simpa using hi
    have hat:=fun r (hr:r<3)=>(h.row.cellAt (i*3+r) (by omega)).trans (flatM_at ps i r hi' hr);have e:(ps.map (·.1))[i]=ps[i].1:=List.getElem_map _;rw[e,List.getElem?_eq_getElem hi'];have a0:=hat 0 (by omega);rw[Nat.add_zero]at a0;exact⟨by rw[a0];rfl,by rw[hat 1 (by omega)];rfl,by rw[hat 2 (by omega)];rfl⟩
  · have hi':i<ps.length:=by simpa using hi
    rw[List.getElem?_eq_getElem hi',List.getElem_map];exact(hz _ (List.getElem_mem hi')).imp (fun _ _ _=>rfl) hP
theorem TermIn.three {w:World} {P:Nat→Prop} {g:Nat} {t:TM} {A:Option Addr} {cap:Nat} (h:TermIn w P t A cap) (hg:∀b,P b→b≠g) (v0 v1 v2:Value):
  TermIn (((w.setCell ⟨g,0,none⟩ v0).setCell ⟨g,1,none⟩ v1).setCell ⟨g,2,none⟩ v2) P t A cap:=by
 refine h.imp (fun b o hb=> ?_) (fun _ h=>h);have hne:∀o',(⟨g,o',none⟩:Addr)≠⟨b,o,none⟩:=fun o' e=>by
  have:=congrArg Addr.block e;exact hg b hb this.symm
 rw[World.cell?_setCell_other _ _ _ _ (hne _),World.cell?_setCell_other _ _ _ _ (hne _),World.cell?_setCell_other _ _ _ _ (hne _)]
theorem ZeroIn.three {w:World} {P:Nat→Prop} {g:Nat} {t:TM} {A:Option Addr} {cap:Nat} (h:ZeroIn w P t A cap) (hg:∀b,P b→b≠g) (v0 v1 v2:Value):
  ZeroIn (((w.setCell ⟨g,0,none⟩ v0).setCell ⟨g,1,none⟩ v1).setCell ⟨g,2,none⟩ v2) P t A cap:=by
 refine h.imp (fun b o hb=> ?_) (fun _ h=>h);have hne:∀o',(⟨g,o',none⟩:Addr)≠⟨b,o,none⟩:=fun o' e=>by
  have:=congrArg Addr.block e;exact hg b hb this.symm
 rw[World.cell?_setCell_other _ _ _ _ (hne _),World.cell?_setCell_other _ _ _ _ (hne _),World.cell?_setCell_other _ _ _ _ (hne _)]
theorem block_three (w:World) (g b:Nat) (h:b≠g) (v0 v1 v2:Value):(((w.setCell ⟨g,0,none⟩ v0).setCell ⟨g,1,none⟩ v1).setCell ⟨g,2,none⟩ v2).heap[b]? =w.heap[b]? :=by
 rw[Below.heap_setCell _ _ _ _ (by exact h),Below.heap_setCell _ _ _ _ (by exact h),Below.heap_setCell _ _ _ _ (by exact h)]
theorem size_three (w:World) (g:Nat) (v0 v1 v2:Value):(((w.setCell ⟨g,0,none⟩ v0).setCell ⟨g,1,none⟩ v1).setCell ⟨g,2,none⟩ v2).heap.size=w.heap.size:=by
 simp[World.setCell]
def GrowIs (w:World) (e:Ending) (w':World):Prop:=∃v,e= .returned v∧w'.ownsRow w.heap.size 25 3 v 0 []∧Below w.heap.size w w'
theorem growM_any (n:Nat) (hn:n≤8192) (w:World):Calls prog 112 #[.slice none 0 0,.int .i64 (n:Int)] w (GrowIs w):=by
 obtain⟨i0,hi0,hz0,hz1,hz2⟩:=info_parts infoM;by_cases h0:n=0
 ·subst h0;refine(Go.Proofs.Any8.slices_Grow_room Tryz.laysGrow none 0 0 0 w (by omega) (by omega) (by omega) (by omega)).mono ?_;rintro e w' ⟨rfl,rfl⟩;exact⟨_,rfl,World.ownsRow_nil _ _ _ _,Below.refl _ _⟩
 ·refine(Go.Proofs.Any8.slices_Grow_grow Tryz.laysGrow i0 _ hi0 hz0 (by omega) none 0 0 n [] w (by omega) (by omega) (by rw[hz2];omega) (by omega) (by simp) (fun _=>rfl) (fun a h=>by cases h)).mono ?_;rintro e w' ⟨rfl,rfl⟩;have h1:=grownCap_ge w (0+n) 0 25;have h2:=grownCap_le_maxLen w (0+n) 0 25 (by unfold maxLen;omega);refine⟨_,rfl,⟨by simp,.inr ⟨w.heap.size,_,_,rfl,Nat.le_refl _,heap_alloc_new _ _,Nat.zero_le _,h2, ?_,by simp⟩⟩,((Below.refl _ _).drew).alloc (by simp) _⟩;simp only[Array.size_append,List.size_toArray,size_zeroCells];show 0+(0+n - 0)*3+(grownCap w (0+n) 0 25 - (0+n))*3=grownCap w (0+n) 0 25*3
  omega
def TRenewIs (t:TM) (w:World) (e:Ending) (w':World):Prop:=
 ∃A cap P,e= .returned (termV t A cap)∧ZeroIn w' P t A cap∧(∀b,P b→w.heap.size≤b∧b<w'.heap.size)∧Cold w' P∧Below w.heap.size w w'
def TRenewRel (w:World) (k n:Int) (l:List TM) (A:Option Addr) (cap:Nat) (nv iv:Value) (wr:World):Prop:=
 ∃(i:Nat) (ps:List (TM×Option Addr×Nat)) (P:Nat→Prop),i≤l.length∧iv= .int .i64 i∧Below w.heap.size w wr∧
  Bk wr w.heap.size 25 #[.int .i64 k,.int .i64 n,.slice A l.length cap]∧Bk wr (w.heap.size+1) 25 #[.int .i64 0,.int .i64 0,.slice none 0 0]∧
  TermRow wr (w.heap.size+2) 25 nv ps P∧(∀b,P b→w.heap.size+2≤b)∧Cold wr P∧(∀p∈ps,ZeroIn wr P p.1 p.2.1 p.2.2)∧ps.map (·.1)=l.take i
theorem trenew_any:∀(t:TM) (lo hi:Nat) (A:Option Addr) (cap:Nat) (w:World),IsTerm w lo hi t A cap→hi≤w.heap.size→t.size≤8192→
  Calls prog 80 #[termV t A cap] w (TRenewIs t w):=by
 intro t;induction t using TM.ind with
 | h k n l ih=>
  intro lo hi A cap w h hhi hsz;obtain⟨i0,hi0,hz0,hz1,hz2⟩:=info_parts infoM;obtain⟨hl,hm⟩:=h.bounds;rw[tsize_node]at hsz;have hll:=sizeM_len l;have hl9:l.length≤8192:=by omega
  have HSZ:=hid hsz;have IH:=hid ih;have HN:=hid h.sub;unfold maxLen at hm;clear ih h hsz hll;rw[termV_node];go_enter func80,ntmps80;go_wp2_with fail;refine((growM_any l.length hl9 _)).mono ?_;rintro e w0 ⟨v0,rfl,ho0,hb0⟩;obtain⟨a0,cc0,rfl⟩:=own_sliceM ho0;have hz0':=hb0.size;simp at hz0';have hBK1:Bk w0 w.heap.size 25 #[.int .i64 k,.int .i64 n,.slice A l.length cap]:=((Bk.new w 25 _).alloc _).below hb0 (by simp;omega);have hBK2:Bk w0 (w.heap.size+1) 25 #[.int .i64 0,.int .i64 0,.slice none 0 0]:=(Bk.last (w.alloc (.cells #[.int .i64 k,.int .i64 n,.slice A l.length cap] 25)) 25 #[.int .i64 0,.int .i64 0,.slice none 0 0] (by simp)).below hb0 (by simp);have hB0:=(((Below.refl w.heap.size w).alloc (Nat.le_refl _) (.cells #[.int .i64 k,.int .i64 n,.slice A l.length cap] 25)).alloc (by simp) (.cells #[.int .i64 0,.int .i64 0,.slice none 0 0] 25)).trans (hb0.mono (by simp;omega));have y0:w0.cell? ⟨w.heap.size,2,none⟩=some (.slice A l.length cap):=hBK1.cell 2;have hl0:w.heap.size<w0.heap.size:=by omega
  have HO0:=hid ho0;have HBK1:=hid hBK1;have HBK2:=hid hBK2;have HB0:=hid hB0;clear ho0 hBK1 hBK2 hB0 hb0;go_wp2_with fail;go_loopw [3,13] (TRenewRel w k n l A cap) (fun _ iv _=>l.length - (intOf iv).toNat)
  case atStart=>
   refine⟨0,[],fun _=>False,Nat.zero_le _,rfl,HB0.out,HBK1.out,HBK2.out,⟨?_,fun _ h=>h.elim,fun _ h=>by cases h⟩,fun _ h=>h.elim,fun _ h=>h.elim,(fun _ h=>by cases h),by rw[List.take_zero];rfl⟩;have h:=HO0.out;refine⟨h.1, ?_⟩;rcases h.2 with h1|⟨g,cp,cur,h1,h2,h3⟩
   ·exact .inl h1
   ·exact .inr ⟨g,cp,cur,h1,by simp at h2;omega,h3⟩
  case round=>
   obtain⟨i,ps,P,hi1,rfl,hB,b1,b2,hrow,hP,hcold,hzer,hpl⟩:=hrel;have HZE:=hid hzer;clear hzer;have HC:=hid hcold;clear hcold;have hz:=hB.size;have hlt2:=b2.lt;obtain⟨a1,c1,rfl⟩:=own_sliceM hrow.row;have hps:ps.length=i:=by
    have:=congrArg List.length hpl;rw[List.length_map,List.length_take]at this;omega
   have HPS:=hid hps;have HB1:=hid b1;have HB2:=hid b2;have HROW:=hid hrow;have HPP:=hid hP;have HPL:=hid hpl;clear b1 b2 hrow hP hpl hps;by_cases hil:i<l.length
   ·obtain⟨b,o,F,C,hA,hb1,hb2,hx,hnode⟩:=(HN.out i hil).kept hB hhi;subst hA;obtain⟨x0',x1',x2'⟩:=hx;have hsm:l[i].size≤8192:=by have h1:=tsize_mem (List.getElem_mem hil);have h2:=HSZ.out;omega
    have HIH:=hid (IH.out l[i] (List.getElem_mem hil) lo hi F C);have hi1':(i:Int)<(l.length:Int):=by omega
    have HST:Hid ((ps++[(l[i],F,C)]).map (·.1)=l.take (i+1)):=hid (by rw[List.map_append,HPL.out,take_snocM hil];rfl);obtain⟨u,hu⟩:∃u,l[i]=u:=⟨_,rfl⟩;unfold TRenewIs at HIH;rw[hu]at HIH hnode x0' x1' x2' HST hsm;have HSM:=hid hsm;clear hu hsm;go_wp2_with fail;refine(HIH.out _ (hnode.alloc (by omega) _) (by simp;omega) HSM.out).mono ?_;rintro e w1 ⟨F',C',Pn,rfl,hn1,hpn,hcn,hb1⟩;rw[termV];have HPN:=hid hpn;have HCN:=hid hcn;have hsz1:=hb1.size;simp at hsz1;have B1:=(HB1.out.alloc (.cells #[.int .i64 u.k,.int .i64 u.n,.slice F u.l.length C] 25)).below hb1 (by simp;omega);have B2:=(HB2.out.alloc (.cells #[.int .i64 u.k,.int .i64 u.n,.slice F u.l.length C] 25)).below hb1 (by simp;omega);have R1:=((HROW.out.alloc (.cells #[.int .i64 u.k,.int .i64 u.n,.slice F u.l.length C] 25)).below hb1).alloc (.cells #[.int .i64 u.k,.int .i64 u.n,.slice F' u.l.length C'] 25);have HR1:=hid R1;have HBB1:=hid B1;have HBB2:=hid B2;have HN1:=hid hn1;have HOW:=hid R1.row;have hq1:∀b,P b→w1.heap[b]? =wr.heap[b]? :=fun b hb=>by
     have:=(HROW.out.far b hb).1;rw[hb1.block b (by simp;omega),Below.heap_alloc _ _ _ this]
    have HQ1:=hid hq1;clear R1 B1 B2 hn1 hpn hcn hq1;go_wp2_with (at_builtin;refine wpList_app rfl _ _ 23 rfl (w.heap.size+2) 25 i0 (.agg #[.int .i64 0,.int .i64 0,.slice none 0 0]) 3 40 Tryz.underlying23 hi0 hz0 hz1 hz2 rfl (by decide) _ _ _ rfl HOW.out (some ⟨w1.heap.size,0,none⟩) 1 1 (cellsM (u,F',C')) rfl (src_at _ _ _ (by simp) rfl) (cellsM_one _) ?c3 ?c4 ?c5 ?_)
    case c3=>have:=HPS.out;unfold maxLen;omega
    case c4=>have:=HPS.out;omega
    case c5=>simp;omega
    rintro v2 w3 ⟨hown3,hg3,ho3⟩;have hsz3:=hg3.size;simp at hsz3;have hown0:=HR1.out.row.lt;have HRow:=hid (HR1.out.push (Pn:=Pn) (p:=(u,F',C')) (HN1.out.term.imp (fun b o hb=>World.cell?_alloc_lt _ _ _ (HPN.out b hb).2) (fun _ h=>h)) (fun b hb=>⟨by have:=(HPN.out b hb).2;simp;omega,fun e=>by
     have h1:=HROW.out.row.lt b e;have h2:=(HPN.out b hb).1;simp at h2;omega⟩) hown3 hg3 ho3)
    have HZZ:Hid (∀q∈ps++[(u,F',C')],ZeroIn w3 (fun b=>P b∨Pn b) q.1 q.2.1 q.2.2):=by
     show ∀q∈_,_
     intro q hq;rcases List.mem_append.1 hq with hq|hq
     ·refine(HZE.out q hq).imp (fun b o hb=> ?_) (fun b hb=> .inl hb);have h1:=HROW.out.far b hb;exact World.cell?_of_block (a:=⟨b,o,none⟩) ((hg3.block b (by simp;omega) (fun e=>h1.2 e.symm)).trans ((Below.heap_alloc _ _ _ (by omega)).trans (HQ1.out b hb)))
     ·obtain rfl:q=(u,F',C'):=by simpa using hq
      refine HN1.out.imp (fun b o hb=> ?_) (fun b hb=> .inr hb);have h1:=HPN.out b hb;simp at h1;exact World.cell?_of_block (a:=⟨b,o,none⟩) ((hg3.block b (by simp;omega) (fun e=>by have:=HROW.out.row.lt b e.symm;omega)).trans (Below.heap_alloc _ _ _ (by omega)))
    have HCC:Hid (Cold w3 fun b=>P b∨Pn b):=by
     show ∀b,_
     intro b hb q;rcases hb with hb|hb
     ·have h1:=HROW.out.far b hb;rw[World.frozen?_of_block (a:=⟨b,q,none⟩) ((hg3.block b (by simp;omega) (fun e=>h1.2 e.symm)).trans ((Below.heap_alloc _ _ _ (by omega)).trans (HQ1.out b hb)))];exact HC.out b hb q
     ·have h1:=HPN.out b hb;simp at h1;rw[World.frozen?_of_block (a:=⟨b,q,none⟩) ((hg3.block b (by simp;omega) (fun e=>by have:=HROW.out.row.lt b e.symm;omega)).trans (Below.heap_alloc _ _ _ (by omega)))];exact HCN.out b hb q
    have hne:∀g,g<w.heap.size+2→some g≠(Value.slice a1 ps.length c1).ownBlock:=fun g hg e=>by
     have:=hown0 g e.symm;omega
    have B1:=hid ((HBB1.out.alloc _).grown hg3 (hne _ (by omega)));have B2:=hid ((HBB2.out.alloc _).grown hg3 (hne _ (by omega)));have hbb:=((hB.alloc hz (.cells #[.int .i64 u.k,.int .i64 u.n,.slice F u.l.length C] 25)).trans (hb1.mono (by simp;omega))).alloc (by omega) (.cells #[.int .i64 u.k,.int .i64 u.n,.slice F' u.l.length C'] 25);have HB4:=hid (hbb.grown hg3 (by simp;omega) (fun g e=>by have:=hown0 g e;omega));clear hown3 hg3 ho3 hown0 hne hbb hb1;go_wp2_with fail;go_roundw
    case rel=>
     refine⟨i+1,ps++[(u,F',C')],fun b=>P b∨Pn b,by omega,rfl,HB4.out,B1.out,B2.out,HRow.out, ?_,HCC.out,HZZ.out, ?_⟩
     ·intro b hb;rcases hb with hb|hb
      ·exact HPP.out b hb
      ·have:=(HPN.out b hb).1;simp at this;omega
     ·have:=HST.out;rw[List.map_append]at this⊢;exact this
    case measure=>simp[intOf];omega
   ·obtain rfl:i=l.length:=by omega
    have hfull:ps.map (·.1)=l:=by rw[HPL.out,List.take_length]
    have hpar:=HROW.out.parentZ HZE.out (Q:=fun b=>P b∨(Value.slice a1 ps.length c1).ownBlock=some b) (fun b h=> .inl h) (fun b h=> .inr h) k n;rw[hfull]at hpar;have hqr:∀b,(P b∨(Value.slice a1 ps.length c1).ownBlock=some b)→w.heap.size+2≤b∧b<wr.heap.size:=fun b hb=>by
     rcases hb with hb|hb
     ·exact⟨HPP.out b hb,(HROW.out.far b hb).1⟩
     ·exact HROW.out.row.lt b hb
    have hqc:Cold wr fun b=>P b∨(Value.slice a1 ps.length c1).ownBlock=some b:=fun b hb q=>by
     rcases hb with hb|hb
     ·exact HC.out b hb q
     ·exact own_cold HROW.out.row b hb q
    have HQR:=hid hqr;have HQC:=hid hqc;clear hqr hqc;have HPAR:=hid hpar;have hfz:∀o,wr.frozen? ⟨w.heap.size+1,o,none⟩=false:=fun o=>HB2.out.cold o;have hfz1:wr.frozen? ⟨w.heap.size,2,none⟩=false:=HB1.out.cold 2;have d0:wr.cell? ⟨w.heap.size+1,0,none⟩=some (.int .i64 0):=HB2.out.cell 0;have d1:wr.cell? ⟨w.heap.size+1,1,none⟩=some (.int .i64 0):=HB2.out.cell 1;have d2:wr.cell? ⟨w.heap.size+1,2,none⟩=some (.slice none 0 0):=HB2.out.cell 2;have e0:wr.cell? ⟨w.heap.size,0,none⟩=some (.int .i64 k):=HB1.out.cell 0;have e1:wr.cell? ⟨w.heap.size,1,none⟩=some (.int .i64 n):=HB1.out.cell 1;have e2:wr.cell? ⟨w.heap.size,2,none⟩=some (.slice A l.length cap):=HB1.out.cell 2;have B5:=(((HB2.out.far (a:=⟨w.heap.size,2,none⟩) (by simp) (.slice a1 ps.length c1)).at_ 0 (.int .i64 k)).at_ 1 (.int .i64 n)).at_ 2 (.slice a1 ps.length c1);have HS0:=hid (B5.cell 0);have HS1:=hid (B5.cell 1);have HS2:=hid (B5.cell 2);have HLL:Hid (ps.length=l.length):=hid (by have:=congrArg List.length hfull;rw[List.length_map]at this;exact this);clear hfull hpar B5;go_wp2_with fail;refine bodyPost_ret (v:= .agg #[.int .i64 k,.int .i64 n,.slice a1 ps.length c1]) (by simp[results,results80,go_sem,HS0.out,HS1.out,HS2.out]) rfl ?_;refine⟨a1,c1,fun b=>P b∨(Value.slice a1 ps.length c1).ownBlock=some b,by rw[termV_node,HLL.out], ?_, ?_, ?_, ?_⟩
    ·exact(HPAR.out.imp (fun b o hb=>World.cell?_setCell_other _ _ _ _ (fun e=>by
      have h1:=congrArg Addr.block e;have h2:=HQR.out b hb;simp at h1;omega)) (fun _ h=>h)).three (fun b hb e=>by have:=HQR.out b hb;omega) _ _ _
    ·intro b hb;have:=HQR.out b hb;exact⟨by omega,by rw[size_three];simp[World.setCell];omega⟩
    ·refine HQC.out.kept (fun b hb=> ?_);have:=HQR.out b hb;rw[block_three _ _ _ (by omega),Below.heap_setCell _ _ _ _ (by show b≠w.heap.size;omega)]
    ·exact(((hB.setCell (by simp) _).setCell (by simp) _).setCell (by simp) _).setCell (by simp) _
def TCopyIs (t:TM) (w:World) (e:Ending) (w':World):Prop:=
  (shapedB t=true∧TRenewIs t w e w')∨(shapedB t=false∧e= .returned (.agg #[.int .i64 0,.int .i64 0,.slice none 0 0])∧Below w.heap.size w w')
theorem tcopy_any (t:TM) (lo hi:Nat) (A:Option Addr) (cap:Nat) (w:World) (h:IsTerm w lo hi t A cap) (hhi:hi≤w.heap.size) (hS:ShapesM w):
  Calls prog 54 #[termV t A cap] w (TCopyIs t w):=by
 have hf:=fun W h1 h2 h3=>shaped_any t lo hi A cap W h1 h2 h3;obtain⟨x,hx⟩:∃x,shapedB t=x:=⟨_,rfl⟩;rw[hx]at hf;have HF:=hid hf;have HX:=hid hx;have hren:x=true→∀(W:World),IsTerm W lo hi t A cap→hi≤W.heap.size→Calls prog 80 #[termV t A cap] W (TRenewIs t W):=fun e W h1 h2=>trenew_any t lo hi A cap W h1 h2 (shapedB_true.1 (hx.trans e)).1;have HREN:=hid hren;have HW2:=hid (fun o1 o2=>((Below.refl w.heap.size w).alloc (Nat.le_refl _) o1).alloc (by simp) o2);have HH:=hid (fun W (hb:Below w.heap.size w W)=>h.kept hb hhi);have HSS:=hid (fun W (hb:Below w.heap.size w W)=>hS.kept hb);clear hf hx hren h hS;unfold termV at HF HREN⊢;go_enter func54,ntmps54;go_wp2_with fail;refine(HF.out _ (HH.out _ (HW2.out _ _)) (by simp;omega) (HSS.out _ (HW2.out _ _))).mono ?_;rintro e w1 ⟨rfl,hb1⟩;have hsz1:=hb1.size;simp at hsz1;have B1:Bk w1 (w.heap.size+1) 25 #[.int .i64 0,.int .i64 0,.slice none 0 0]:=(Bk.last (w.alloc (.cells #[.int .i64 t.k,.int .i64 t.n,.slice A t.l.length cap] 25)) 25 #[.int .i64 0,.int .i64 0,.slice none 0 0] (by simp)).below hb1 (by simp);have B0:Bk w1 w.heap.size 25 #[.int .i64 t.k,.int .i64 t.n,.slice A t.l.length cap]:=((Bk.new w 25 _).alloc _).below hb1 (by simp;omega);have HB1:=hid ((HW2.out (.cells #[.int .i64 t.k,.int .i64 t.n,.slice A t.l.length cap] 25) (.cells #[.int .i64 0,.int .i64 0,.slice none 0 0] 25)).trans (hb1.mono (by simp;omega)));have k0:w1.cell? ⟨w.heap.size,0,none⟩=some (.int .i64 t.k):=B0.cell 0;have k1:w1.cell? ⟨w.heap.size,1,none⟩=some (.int .i64 t.n):=B0.cell 1;have k2:w1.cell? ⟨w.heap.size,2,none⟩=some (.slice A t.l.length cap):=B0.cell 2;have hl0:w.heap.size<w1.heap.size:=by omega
 have hl1:w.heap.size+1<w1.heap.size:=by omega
 have HBK:=hid B1;clear hb1 B0 B1;cases x with
 | false=>
  have hfz:∀o,w1.frozen? ⟨w.heap.size+1,o,none⟩=false:=fun o=>HBK.out.cold o;have d0:w1.cell? ⟨w.heap.size+1,0,none⟩=some (.int .i64 0):=HBK.out.cell 0;have d1:w1.cell? ⟨w.heap.size+1,1,none⟩=some (.int .i64 0):=HBK.out.cell 1;have d2:w1.cell? ⟨w.heap.size+1,2,none⟩=some (.slice none 0 0):=HBK.out.cell 2;have B5:=((HBK.out.at_ 0 (.int .i64 0)).at_ 1 (.int .i64 0)).at_ 2 (.slice none 0 0);have HS0:=hid (B5.cell 0);have HS1:=hid (B5.cell 1);have HS2:=hid (B5.cell 2);clear B5;go_wp2_with fail;refine bodyPost_ret (v:= .agg #[.int .i64 0,.int .i64 0,.slice none 0 0]) (by simp[results,results54,go_sem,HS0.out,HS1.out,HS2.out]) rfl ?_;exact .inr ⟨HX.out,rfl,((HB1.out.setCell (by simp) _).setCell (by simp) _).setCell (by simp) _⟩
 | true=>
  have HR2:=hid (HREN.out rfl);clear HREN;go_wp2_with fail;refine(HR2.out _ (HH.out _ HB1.out) (by omega)).mono ?_;rintro e w2 ⟨A',cap',P,rfl,hn2,hp2,hc2,hb2⟩;rw[termV];have HP2:=hid hp2;have HC2:=hid hc2;have hsz2:=hb2.size;have HB2:=hid (HB1.out.trans (hb2.mono (by omega)));have BK2:=HBK.out.below hb2 (by omega);have hfz:∀o,w2.frozen? ⟨w.heap.size+1,o,none⟩=false:=fun o=>BK2.cold o;have d0:w2.cell? ⟨w.heap.size+1,0,none⟩=some (.int .i64 0):=BK2.cell 0;have d1:w2.cell? ⟨w.heap.size+1,1,none⟩=some (.int .i64 0):=BK2.cell 1;have d2:w2.cell? ⟨w.heap.size+1,2,none⟩=some (.slice none 0 0):=BK2.cell 2;have B5:=((BK2.at_ 0 (.int .i64 t.k)).at_ 1 (.int .i64 t.n)).at_ 2 (.slice A' t.l.length cap');have HS0:=hid (B5.cell 0);have HS1:=hid (B5.cell 1);have HS2:=hid (B5.cell 2);have HN2:=hid hn2;clear B5 BK2 hb2 hn2 hp2 hc2;go_wp2_with fail;refine bodyPost_ret (v:= .agg #[.int .i64 t.k,.int .i64 t.n,.slice A' t.l.length cap']) (by simp[results,results54,go_sem,HS0.out,HS1.out,HS2.out]) rfl ?_;refine .inl ⟨HX.out,A',cap',P,rfl, ?_, ?_, ?_,((HB2.out.setCell (by simp) _).setCell (by simp) _).setCell (by simp) _⟩
  ·exact HN2.out.three (fun b hb e=>by have:=HP2.out b hb;omega) _ _ _
  ·intro b hb;have:=HP2.out b hb;exact⟨by omega,by rw[size_three];omega⟩
  ·refine HC2.out.kept (fun b hb=> ?_);have:=HP2.out b hb;rw[block_three _ _ _ (by omega)]
end Go.Proofs.YtchllgkgjompgaaGreatDoor
