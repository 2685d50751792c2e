import Derived.Test.YtchllgkgjompgaaGreatDoorM4
import Derived.Deep.RegionHeld3
import Derived.IntWalk
import Derived.Test.YtchllgkgjompgaaGreatDoorM2
namespace Go.Proofs.YtchllgkgjompgaaGreatDoor
open Go.RowKit
set_option linter.unusedVariables false
set_option maxRecDepth 100000
open Lib(hid)
theorem TermIn.first {w:World} {P:Nat→Prop} {t:TM} {A:Option Addr} {cap:Nat} (h:TermIn w P t A cap) (m:Nat) (hm:m≤t.l.length):
  ∃ps:List (TM×Option Addr×Nat),ps.map (·.1)=t.l.take m∧ps.length=m∧(∀W:World,(∀b o,P b→W.cell? ⟨b,o,none⟩=w.cell? ⟨b,o,none⟩)→Src W 3 A m (flatM ps))∧∀p∈ps,TermIn w P p.1 p.2.1 p.2.2:=by
 cases h with
 | mk k n l A cap F C hl hmx hc hn=>
  have hm':m≤l.length:=hm;have hlt:∀i:Fin m,i.val<l.length:=fun i=>by have:=i.isLt;omega
  refine⟨List.ofFn fun i:Fin m=>(l[i.val]'(hlt i),F i.val,C i.val), ?_,by simp, ?_, ?_⟩
  ·apply List.ext_getElem
   ·simp[TM.l];omega
   ·intro i h1 h2;simp[TM.l]
  ·have hlen:∀ps:List (TM×Option Addr×Nat),(flatM ps).length=ps.length*3:=by
    intro ps;induction ps with
    | nil=>rfl
    | cons p ps ih=>
     show(cellsM p++flatM ps).length=_
     rw[List.length_append,ih];simp[cellsM];omega
   refine fun W hW=>⟨by rw[hlen];simp,fun h0=> ?_⟩;obtain⟨b,o,hA,hPb,hx⟩:=hc (by omega);refine⟨_,hA,fun j u hu=> ?_⟩;have hj:j<m*3:=by
    have:=(List.getElem?_eq_some_iff.1 hu).1;rw[hlen]at this;simpa using this
   have hjm:j/3<m:=by omega
   have e:j=j/3*3+j % 3:=by omega
   have hat:=flatM_at (List.ofFn fun i:Fin m=>(l[i.val]'(hlt i),F i.val,C i.val)) (j/3) (j % 3) (by simpa using hjm) (by omega);rw[←e,hu]at hat;have hcell:=hx (j/3) (by omega);rw[Addr.add_lit];have e2:o+j=o+j/3*3+j % 3:=by omega
   rw[e2,hW b _ hPb];obtain⟨y0,y1,y2⟩:=hcell;have h5:j % 3=0∨j % 3=1∨j % 3=2:=by omega
   simp only[List.getElem_ofFn]at hat;rcases h5 with h5|h5|h5<;>rw[h5]at hat⊢
   ·rw[Nat.add_zero,y0,hat];rfl
   ·rw[y1,hat];rfl
   ·rw[y2,hat];rfl
  ·intro p hp;obtain⟨i,rfl⟩:=(List.mem_ofFn).1 hp;exact hn _ _
theorem flatM_length (ps:List (TM×Option Addr×Nat)):(flatM ps).length=ps.length*3:=by
 induction ps with
 | nil=>rfl
 | cons p ps ih=>
  show(cellsM p++flatM ps).length=_
  rw[List.length_append,ih];simp[cellsM];omega
theorem flatM_one (ps:List (TM×Option Addr×Nat)):∀u∈flatM ps,u.oneCell'=true:=by
 intro u hu;obtain⟨p,_,h⟩:=List.mem_flatMap.1 hu;exact cellsM_one p u h
theorem flatM_append (ps qs:List (TM×Option Addr×Nat)):flatM (ps++qs)=flatM ps++flatM qs:=by unfold flatM;rw[List.flatMap_append]
theorem TermRow.more {w w':World} {base:Nat} {e:TypeId} {v v':Value} {ps qs:List (TM×Option Addr×Nat)} {P:Nat→Prop} (h:TermRow w base e v ps P)
    (hn:∀p∈qs,TermIn w P p.1 p.2.1 p.2.2) (ha:AppTo w base e 3 v (ps.length+qs.length) (flatM ps++flatM qs) v' w'):TermRow w' base e v' (ps++qs) P:=by
  obtain⟨hr,hg,ho⟩:=ha;have hcell:∀b o,P b→w'.cell? ⟨b,o,none⟩=w.cell? ⟨b,o,none⟩:=fun b o hb'=>World.cell?_of_block (a:=⟨b,o,none⟩) (hg.block b (h.far b hb').1 (fun e=>(h.far b hb').2 e.symm));refine⟨by rw[flatM_append,List.length_append];exact hr,fun b hb'=>⟨Nat.lt_of_lt_of_le (h.far b hb').1 hg.size,fun e=> ?_⟩,fun q hq=> ?_⟩
  · rcases ho with ho|ho
    · exact(h.far b hb').2 (ho.symm.trans e)
    · have:=(h.far b hb').1;rw[ho]at e;injection e with e;omega
  · rcases List.mem_append.1 hq with hq|hq
    · exact(h.node q hq).imp hcell (fun _ h=>h)
    · exact(hn q hq).imp hcell (fun _ h=>h)
theorem TermRow.app {w w':World} {base:Nat} {e:TypeId} {v v':Value} {ps qs:List (TM×Option Addr×Nat)} {P:Nat→Prop} {n m:Nat} (h:TermRow w base e v ps P) (hn:ps.length=n) (hm:qs.length=m)
    (hq:∀p∈qs,TermIn w P p.1 p.2.1 p.2.2) (ha:AppTo w base e 3 v (n+m) (flatM ps++flatM qs) v' w'):TermRow w' base e v' (ps++qs) P:=by
  subst hn;subst hm;exact h.more hq ha
def TSizeRel (w:World) (k n:Int) (l:List TM) (A:Option Addr) (cap lo hi:Nat) (tv hv:Value) (wr:World):Prop:=
 ∃(h:Nat) (ps:List (TM×Option Addr×Nat)),hv= .int .i64 h∧Below w.heap.size w wr∧TermRow wr w.heap.size 25 tv ps (fun b=>lo≤b∧b<hi)∧
  h≤8193∧ps.length≤(h+1)*8193∧topN (h+sizeM (ps.map (·.1)))=topN (sizeM l+1)
set_option maxHeartbeats 2000000 in
theorem refTSize_any (t:TM) (lo hi:Nat) (A:Option Addr) (cap:Nat) (w:World) (h:IsTerm w lo hi t A cap) (hhi:hi≤w.heap.size):
    Calls Tryz.prog 32 #[termV t A cap] w fun e w'=>e= .returned (.int .i64 (topN t.size:Int))∧Below w.heap.size w w':=by
  obtain⟨k,n,l⟩:=t;obtain⟨i0,hi0,hz0,hz1,hz2⟩:=info_parts infoM;have HH:=hid h;rw[termV_node,tsize_node];go_enter Tryz.func32,Tryz.ntmps32;go_wp2_with fail;go_loopw [3,4] (TSizeRel w k n l A cap lo hi) (fun _ hv _=>8194 - (intOf hv).toNat)
  case atStart=>
    refine⟨0,[(.node k n l,A,cap)],rfl,((Below.refl _ _).alloc (Nat.le_refl _) _).alloc (by simp) _, ?_,by omega,by simp, ?_⟩
    · refine⟨?_,fun b hb=>⟨by simp;omega,fun e=> ?_⟩,fun p hp=> ?_⟩
      · have:=World.ownsRow_lit (base:=w.heap.size) (e:=25) (size:=3) (w.alloc (.cells #[.int .i64 k,.int .i64 n,.slice A l.length cap] 25)) #[.int .i64 k,.int .i64 n,.slice A l.length cap] 1 (by simp) (by decide) rfl;simp at this;exact this
      · have e':w.heap.size+1=b:=by simpa [Value.ownBlock]using e
        omega
      · obtain rfl:p=(.node k n l,A,cap):=by simpa using hp
        exact((HH.out.alloc hhi _).alloc (by simp;omega) _)
    · show topN (0+sizeM [.node k n l])=_
      rw[sizeM_cons,sizeM_nil,tsize_node];congr 1;omega
  case round=>
    obtain⟨d,ps,rfl,hB,hrow,hd,hlen,hcut⟩:=hrel;have hz:=hB.size;obtain⟨a1,c1,rfl⟩:=own_sliceM hrow.row;by_cases h0:0<ps.length
    · by_cases hd2:d≤8192
      · obtain⟨qs,p,rfl,hq1⟩:=row_snocM h0;obtain⟨g,c,hv,hg1,hg2⟩:=hrow.row.form h0;injection hv with hv _ hv2;subst hv;subst hv2;obtain⟨m,hm⟩:∃m,qs.length=m:=⟨_,rfl⟩;have hat:∀r,r<3→wr.cell? ⟨g,m*3+r,none⟩=(cellsM p)[r]? :=fun r hr=>by
          have h1:=hrow.row.cellAt (m*3+r) (by rw[hq1,hm];omega);have h2:=flatM_at (qs++[p]) m r (by rw[hq1,hm];omega) hr;rw[h1,h2];simp[←hm]
        have x0:wr.cell? ⟨g,m*3,none⟩=some (.int .i64 p.1.k):=hat 0 (by omega);have x1:wr.cell? ⟨g,m*3+1,none⟩=some (.int .i64 p.1.n):=hat 1 (by omega);have x2:wr.cell? ⟨g,m*3+2,none⟩=some (.slice p.2.1 p.1.l.length p.2.2):=hat 2 (by omega);obtain⟨mm,hmm⟩:∃mm,min p.1.l.length 8193=mm:=⟨_,rfl⟩;obtain⟨ss,hs1,hs2,hs3,hs4⟩:=(hrow.node p (by simp)).first mm (by omega)
        have hlen1:(qs++[p]).length=m+1:=by rw[hq1,hm]
        rw[hlen1]at hrow⊢;have HPC:Hid (p.1.l.length≤p.2.2):=by
          have h:=hrow.node p (by simp);rw[p.1.eta]at h;exact h.bounds.1
        have hcap1:m+1≤c1:=by
          rcases hrow.row.2 with ⟨h1,_⟩|⟨_,_,_,h1,_,_,h2,_⟩
          · simp at h1
          · injection h1 with _ _ h3;rw[h3];rw[hlen1]at h2;exact h2
        have HROW:=hid hrow;have hrr:=hrow.row;rw[hlen1]at hrr;have HRR:=hid hrr;clear hrr;have hM:min (p.1.l.length:Int) 8193=(mm:Int):=by omega
        have hmI:(m:Int)≤67125249:=by rw[hq1,hm]at hlen;have:(d+1)*8193≤8193*8193:=Nat.mul_le_mul_right _ (by omega);omega
        have HLEN:Hid (m+1≤(d+1)*8193):=hid (by rw[hq1,hm]at hlen;exact hlen);clear hlen;have HCUT:=hid hcut;clear hrow hat hcut h;have HL:=hid hlen1;have HMM:=hid hmm;have HQ1:=hid hq1;have HM:=hid hm;have HS1:=hid hs1;have HS2:=hid hs2;clear hlen1 hmm hq1 hm hs1 hs2;have hW1:IntKind.i64.wrap (m:Int)=(m:Int):=IntWalk.i64_in _ (by omega);have hc1:m+1≤c1:=hcap1;have hm0:(0:Int)≤(m:Int):=by omega
        have hmc:(m:Int)≤(c1:Int):=by omega
        have hc0: ¬ c1=0:=by omega
        have hsr1:∀W,Below wr.heap.size wr W→Src W 3 (some ⟨g,0,none⟩) m (flatM qs):=fun W hW=>⟨by rw[flatM_length,HM.out],fun _=>⟨_,rfl,fun j u hu=>by
          have hj:j<m*3:=by
            have:=(List.getElem?_eq_some_iff.1 hu).1;rw[flatM_length,HM.out]at this;exact this
          rw[Addr.add_lit,Nat.zero_add,hW.cell (p:=⟨g,j,none⟩) hg2,HRR.out.cellAt j (by omega),flatM_append,List.getElem?_append_left (by rw[flatM_length,HM.out];exact hj)];exact hu⟩⟩
        have hsr2:∀W,Below wr.heap.size wr W→Src W 3 p.2.1 mm (flatM ss):=fun W hW=>hs3 W (fun b o hb=>hW.cell (p:=⟨b,o,none⟩) (by show b<wr.heap.size;omega));have hnr0:∀(W:World) (gg:Nat),w.heap.size≤gg→hi≤W.heap.size→W.ownsRow w.heap.size 25 3 (.slice (some ⟨gg,0,none⟩) 0 0) 0 []→TermRow W w.heap.size 25 (.slice (some ⟨gg,0,none⟩) 0 0) [] (fun b=>lo≤b∧b<hi):=fun W gg h1 h2 h3=>
          ⟨h3,fun b hb=>⟨by omega,fun e=>by have e':gg=b:=(by simpa [Value.ownBlock]using e);omega⟩,fun q hq=>by cases hq⟩
        have hq3:∀W,Below wr.heap.size wr W→∀q∈qs,TermIn W (fun b=>lo≤b∧b<hi) q.1 q.2.1 q.2.2:=fun W hW q hq=>(HROW.out.node q (List.mem_append_left _ hq)).imp (fun b o hb=>hW.cell (p:=⟨b,o,none⟩) (by show b<wr.heap.size;omega)) (fun _ h=>h);have hs5:∀W,Below wr.heap.size wr W→∀q∈ss,TermIn W (fun b=>lo≤b∧b<hi) q.1 q.2.1 q.2.2:=fun W hW q hq=>(hs4 q hq).imp (fun b o hb=>hW.cell (p:=⟨b,o,none⟩) (by show b<wr.heap.size;omega)) (fun _ h=>h);have hmm2:mm≤8193:=by have:=HMM.out;omega
        have hcut2:topN (d+1+sizeM ((qs++ss).map (·.1)))=topN (sizeM l+1):=by
          rw[←HCUT.out,List.map_append,List.map_append,sizeM_append,sizeM_append];show _=topN (d+(sizeM (qs.map (·.1))+sizeM [p.1]))
          rw[HS1.out,sizeM_cons,sizeM_nil];have e1:p.1.size=sizeM p.1.l+1:=by
            rw[p.1.eta,tsize_node];rfl
          rw[e1];have:=HMM.out;by_cases hb:p.1.l.length≤8193
          · rw[List.take_of_length_le (by omega)];congr 1;omega
          · have h1:=sizeM_len (p.1.l.take mm);have h2:=sizeM_len p.1.l;rw[List.length_take]at h1;unfold topN;omega
        have hB1:∀o1 o2,Below wr.heap.size wr (((wr.alloc o1).alloc o2).drew):=fun o1 o2=>(((Below.refl _ _).alloc (Nat.le_refl _) _).alloc (by simp) _).drew;have HSR1:=hid hsr1;have HSR2:=hid hsr2;have HNR0:=hid hnr0;have HQ3:=hid hq3;have HS5:=hid hs5;have HCUT2:=hid hcut2;have HBB1:=hid hB1;have HS3:=hid hs3;have HS4:=hid hs4;clear hsr1 hsr2 hnr0 hq3 hs5 hcut2 hB1 hs3 hs4;have HB:=hid hB;clear hB;have hmin1:(if(8193:Int)<(p.1.l.length:Int)then(8193:Int)else(p.1.l.length:Int))=(mm:Int):=by have:=HMM.out;split<;>omega
        have hmin2:(if 8193<p.1.l.length then(8193:Int)else(p.1.l.length:Int))=(mm:Int):=by have:=HMM.out;split<;>omega
        have hmap1:Option.map (fun x:Addr=>x.add 0) p.2.1=p.2.1:=by cases p.2.1<;>rfl
        have hmap2:Option.map (fun x:Addr=>x) p.2.1=p.2.1:=by cases p.2.1<;>rfl
        have hmc2:mm≤p.2.2:=by have:=HMM.out;have:=HPC.out;omega
        have hmc3:(mm:Int)≤(p.2.2:Int):=by omega
        have hmm0:(0:Int)≤(mm:Int):=by omega
        obtain⟨W,hW⟩:∃W,((wr.alloc (.cells #[.int .i64 p.1.k,.int .i64 p.1.n,.slice p.2.1 p.1.l.length p.2.2] 25)).alloc (.cells #[] 25)).drew=W:=⟨_,rfl⟩;have hWB:Below wr.heap.size wr W:=by rw[←hW];exact HBB1.out _ _
        have hWz:W.heap.size=wr.heap.size+1+1:=by rw[←hW];simp
        have hWc:W.cell? ⟨wr.heap.size,2,none⟩=some (.slice p.2.1 p.1.l.length p.2.2):=by rw[←hW];simp
        have hWo:W.ownsRow w.heap.size 25 3 (.slice (some ⟨wr.heap.size+1,0,none⟩) 0 0) 0 []:=by
          rw[←hW];have h:=World.ownsRow_lit (base:=w.heap.size) (e:=25) (size:=3) (wr.alloc (.cells #[.int .i64 p.1.k,.int .i64 p.1.n,.slice p.2.1 p.1.l.length p.2.2] 25)) #[] 0 (by simp;omega) (by decide) rfl;simp at h;exact h.drew
        have F1:∀v2 w2,AppTo W w.heap.size 25 3 (.slice (some ⟨wr.heap.size+1,0,none⟩) 0 0) (0+m) ([]++flatM qs) v2 w2→
            w2.cell? ⟨wr.heap.size,2,none⟩=some (.slice p.2.1 p.1.l.length p.2.2)∧wr.heap.size+2≤w2.heap.size∧Hid (Below wr.heap.size wr w2)∧Hid (TermRow w2 w.heap.size 25 v2 qs (fun b=>lo≤b∧b<hi))∧Hid (∀k,v2.ownBlock=some k→wr.heap.size+1≤k):=by
          intro v2 w2 ha;refine⟨(ha.2.1.cell_far ⟨wr.heap.size,2,none⟩ (by show wr.heap.size<W.heap.size;omega) (by simp[Value.ownBlock])).trans hWc,by have:=ha.2.1.size;omega, ?_, ?_, ?_⟩
          · exact hWB.grown ha.2.1 (by omega) (fun k hk=>by have:wr.heap.size+1=k:=(by simpa [Value.ownBlock]using hk);omega)
          · exact(HNR0.out W (wr.heap.size+1) (by omega) (by omega) hWo).app rfl HM.out (HQ3.out _ hWB) ha
          · show ∀k,_
            intro k hk;rcases ha.2.2 with h|h
            · rw[h]at hk;have:wr.heap.size+1=k:=by simpa [Value.ownBlock]using hk
              omega
            · rw[h]at hk;injection hk with hk;omega
        have F2:∀v2 w2 v3 w3,Below wr.heap.size wr w2→TermRow w2 w.heap.size 25 v2 qs (fun b=>lo≤b∧b<hi)→(∀k,v2.ownBlock=some k→wr.heap.size+1≤k)→w2.cell? ⟨wr.heap.size,2,none⟩=some (.slice p.2.1 p.1.l.length p.2.2)→wr.heap.size+2≤w2.heap.size→
            AppTo w2 w.heap.size 25 3 v2 (m+mm) (flatM qs++flatM ss) v3 w3→
            w3.cell? ⟨wr.heap.size,2,none⟩=some (.slice p.2.1 p.1.l.length p.2.2)∧Hid (Below wr.heap.size wr w3)∧Hid (TermRow w3 w.heap.size 25 v3 (qs++ss) (fun b=>lo≤b∧b<hi)):=by
          intro v2 w2 v3 w3 h1 h2 h3 h4 h5 ha;refine⟨(ha.2.1.cell_far ⟨wr.heap.size,2,none⟩ (by show wr.heap.size<w2.heap.size;omega) (fun e=>by have h6:=h3 wr.heap.size e.symm;omega)).trans h4, ?_, ?_⟩
          · exact h1.grown ha.2.1 (by omega) (fun k hk=>by have:=h3 k hk;omega)
          · exact h2.app HM.out HS2.out (HS5.out _ h1) ha
        have F3:∀v2 w2,TermRow w2 w.heap.size 25 v2 qs (fun b=>lo≤b∧b<hi)→w2.ownsRow w.heap.size 25 3 v2 m (flatM qs):=fun v2 w2 h=>by
          have:=h.row;rw[HM.out]at this;exact this
        have HF1:=hid F1;have HF2:=hid F2;have HF3:=hid F3;have HWB:=hid hWB;have HWZ:=hid hWz;have HWO:=hid hWo;have HW:=hid hW;clear F1 F2 F3 hWB hWz hWc hWo hW;go_wp2_with fail;go_region_held3 (fun w'=>w'.cell? ⟨wr.heap.size,2,none⟩=some (.slice p.2.1 p.1.l.length p.2.2)) (first|go_keep)
          (first
            | (rw[HW.out]
               refine step_app rfl (.tmp 21) (.tmp 26) 23 rfl w.heap.size 25 i0 (.agg #[.int .i64 0,.int .i64 0,.slice none 0 0]) 3 40 Tryz.underlying23 hi0 hz0 hz1 hz2 rfl (by decide) (.slice (some ⟨wr.heap.size+1,0,none⟩) 0 0) 0 [] rfl HWO.out (some ⟨g,0,none⟩) m c1 (flatM qs) rfl (HSR1.out _ HWB.out) (flatM_one _) (by unfold maxLen;omega) (by omega) (by have:=HWZ.out;omega) ?_;rintro v2 w2 ha2;obtain⟨hc2,hz22,HB2,HR2,HO2⟩:=HF1.out v2 w2 ha2;clear ha2)
            | (refine step_app rfl (.tmp 27) (.tmp 34) 23 rfl w.heap.size 25 i0 (.agg #[.int .i64 0,.int .i64 0,.slice none 0 0]) 3 40 Tryz.underlying23 hi0 hz0 hz1 hz2 rfl (by decide) v2 m (flatM qs) rfl (HF3.out _ _ HR2.out) p.2.1 mm p.2.2 (flatM ss) rfl (HSR2.out _ HB2.out) (flatM_one _) (by unfold maxLen;omega) (by omega) (by omega) ?_
               rintro v3 w3 ha3;obtain⟨hc3,HB3,HR3⟩:=HF2.out v2 w2 v3 w3 HB2.out HR2.out HO2.out hc2 hz22 ha3;clear ha3))
        all_goals
          go_wp2_with fail;go_roundw
          case rel=>exact⟨d+1,qs++ss,rfl,HB.out.trans (HB3.out.mono hz),HR3.out,by omega,by rw[List.length_append,HM.out,HS2.out];have:=HLEN.out;omega,HCUT2.out⟩
          case measure=>simp[intOf];omega
      · have e:d=8193:=by omega
        have HR:=hid (show(d:Nat)=topN (sizeM l+1)by rw[←hcut,e];unfold topN;omega);clear e hcut hrow hlen;go_wp2_with fail;go_ret;exact⟨ret_nat HR.out,hB⟩
    · have e:ps=[]:=List.eq_nil_of_length_eq_zero (by omega);subst e;have HR:=hid (show(d:Nat)=topN (sizeM l+1)by rw[←hcut];unfold topN;simp[sizeM_nil];omega);clear hcut hrow hlen;go_wp2_with fail;go_ret;exact⟨ret_nat HR.out,hB⟩
theorem TermRow.over {w w':World} {base:Nat} {e:TypeId} {v:Value} {ps:List (TM×Option Addr×Nat)} {P:Nat→Prop} {row:Option Nat} (h:TermRow w base e v ps P) (hg:w.grownBy w' row) (h1:v.ownBlock=none∨v.ownBlock≠row) (h2:∀b,P b→some b≠row):TermRow w' base e v ps P:=
 h.kept hg.size (h.row.kept hg h1) (fun b hb=>hg.block b (h.far b hb).1 (h2 b hb))
end Go.Proofs.YtchllgkgjompgaaGreatDoor
