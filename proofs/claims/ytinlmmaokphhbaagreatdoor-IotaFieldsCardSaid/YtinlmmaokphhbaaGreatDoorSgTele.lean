import Derived.Test.YtinlmmaokphhbaaGreatDoorS5
import Derived.Test.YtinlmmaokphhbaaGreatDoorM9
import Derived.Test.YtinlmmaokphhbaaGreatDoorR4
import Derived.Test.YtinlmmaokphhbaaGreatDoorR3
namespace Go.Proofs.YtinlmmaokphhbaaGreatDoor
set_option maxHeartbeats 4000000
set_option maxRecDepth 100000
open Go.RowKit
set_option linter.unusedVariables false
open Lib(hid)
open Go.Proofs.Tryz
open Go.World renaming cell?_setCell_other→Qa
open _root_.Classical renaming epsilon→Qb,epsilon_spec→Qc
open _root_.List renaming getElem_cons_zero→Qd,getElem_cons_succ→Qe,length_append→Qf,length_cons→Qg,length_nil→Qh
theorem Zet{n:Nat}:n≤n:=Nat.le_refl n
def Zx9 (u:TM)(lo hi:Nat)(w:World)(e:Ending)(w':World):Prop:=∃A cap,e= .returned (Zc u A cap)∧Za w' lo hi u A cap∧Below w.heap.size w w'
def Z52 (t:TM)(w:World)(lo hi:Nat)(sv:Value)(wr:World):Prop:=
 ∃(u:TM) (A:Option Addr) (c:Nat),Below w.heap.size w wr∧Bk wr w.heap.size 27 #[.int .i64 u.k,.int .i64 u.n,.slice A u.l.length c]∧Bk wr (w.heap.size+1) 27 #[.int .i64 0,.int .i64 0,.slice none 0 0]∧
  Za wr lo hi u A c∧Zg u=true∧Zaj u=Zaj t
theorem Zr0 (t:TM)(lo hi:Nat)(A:Option Addr)(cap:Nat)(w:World)(h:Za w lo hi t A cap)(hhi:hi≤w.heap.size)(hg:Zg t=true):
    Calls prog 36 #[Zc t A cap] w (Zx9 (Zaj t) lo hi w):=by
  have HT:=hid h;have HG:=hid hg;have HHI:=hid hhi;clear h hg hhi;unfold Zc;go_enter func36,ntmps36;go_wp2_with fail;go_loopw [3] (Z52 t w lo hi) (fun _ wr=>(@Qb TM ⟨.node 0 0 []⟩ (fun u=>∃A c,Bk wr w.heap.size 27 #[.int .i64 u.k,.int .i64 u.n,.slice A u.l.length c]∧Za wr lo hi u A c)).depth)
  case atStart=>
    exact⟨t,A,cap,((Below.refl w.heap.size w).alloc Zet _).alloc (by simp) _,(Bk.new w 27 _).alloc _,Bk.last _ _ _ (by simp),(HT.out.alloc HHI.out _).alloc (by have:=HHI.out;simp;omega) _,HG.out,rfl⟩
  case round=>
    obtain⟨u,A1,c1,hB,b1,b2,hu,hgu,hhd⟩:=hrel;have hz:=hB.size;have HB1:=hid b1;have HB2:=hid b2;have HU:=hid hu;have HBB:=hid hB;have HHD:=hid hhd;obtain⟨k,n,l⟩:=u;have hdep:∀(wr':World) (v:TM) (B:Option Addr) (d:Nat),Bk wr' w.heap.size 27 #[.int .i64 v.k,.int .i64 v.n,.slice B v.l.length d]→Za wr' lo hi v B d→
        (@Qb TM ⟨.node 0 0 []⟩ (fun u=>∃A c,Bk wr' w.heap.size 27 #[.int .i64 u.k,.int .i64 u.n,.slice A u.l.length c]∧Za wr' lo hi u A c))=v:=fun wr' v B d h1 h2=>by
      obtain⟨A',c',q1,q2⟩:=Qc (p:=fun u=>∃A c,Bk wr' w.heap.size 27 #[.int .i64 u.k,.int .i64 u.n,.slice A u.l.length c]∧Za wr' lo hi u A c) ⟨v,B,d,h1,h2⟩;exact Zlh h1 h2 q1 q2
    have HDEP:=hid hdep;obtain⟨y0,y1,y2,yl⟩:=(Z8.of b1:Z8 wr w.heap.size k n (.slice A1 l.length c1));clear b1 b2 hu hhd hdep;by_cases hk:k=3
    · obtain⟨n',a,f,e0,ha,hf⟩:=Zdl hgu hk;injection e0 with e1 e2 e3;subst e1 e2 e3;obtain⟨bk,o,F,C,hA,hb1,hb2,hx,hnode⟩:=HU.out.sub 1 (by simp);subst hA;obtain⟨x0',x1',x2'⟩:=hx;simp only[Qe,Qd,Nat.one_mul]at x0' x1' x2' hnode;have HNO:=hid hnode;have hbw:bk<wr.heap.size:=by have:=HHI.out;omega
      have hfz:∀q,wr.frozen? ⟨w.heap.size,q,none⟩=false:=fun q=>HB1.out.cold q;have hne:bk≠w.heap.size:=by have:=HHI.out;omega
      have HF:=hid hf;have HH2:=hid (show Zaj f=Zaj t by rw[←HHD.out,(Znr hf).2]);have HKB:=hid (show Bk (((wr.setCell ⟨w.heap.size,0,none⟩ (.int .i64 f.k)).setCell ⟨w.heap.size,1,none⟩ (.int .i64 f.n)).setCell ⟨w.heap.size,2,none⟩ (.slice F f.l.length C)) w.heap.size 27 #[.int .i64 f.k,.int .i64 f.n,.slice F f.l.length C]from((HB1.out.at_ 0 (.int .i64 f.k)).at_ 1 (.int .i64 f.n)).at_ 2 (.slice F f.l.length C));have HKT:=hid (show Za (((wr.setCell ⟨w.heap.size,0,none⟩ (.int .i64 f.k)).setCell ⟨w.heap.size,1,none⟩ (.int .i64 f.n)).setCell ⟨w.heap.size,2,none⟩ (.slice F f.l.length C)) lo hi f F C from HNO.out.imp (fun b o h1 h2=>by
          have hne:∀o',(⟨w.heap.size,o',none⟩:Addr)≠⟨b,o,none⟩:=fun o' e=>by
            have h1:=congrArg Addr.block e;have h3:=HHI.out;simp at h1;omega
          rw[Qa _ _ _ _ (hne _),Qa _ _ _ _ (hne _),Qa _ _ _ _ (hne _)]) Zet Zet)
      have HLESS:=hid (show f.depth<(TM.node 3 n [a,f]).depth by rw[J0,J7,J7];omega);have HU0:=hid (HDEP.out wr (.node 3 n [a,f]) _ c1 HB1.out HU.out);have HU1:=hid (HDEP.out (((wr.setCell ⟨w.heap.size,0,none⟩ (.int .i64 f.k)).setCell ⟨w.heap.size,1,none⟩ (.int .i64 f.n)).setCell ⟨w.heap.size,2,none⟩ (.slice F f.l.length C)) f F C HKB.out HKT.out);clear hgu hf ha hnode HHD;simp only[Qg,Qh]at y2;go_wp2_with fail;go_roundw
      case rel=>
        exact⟨f,F,C,((HBB.out.setCell (by simp) _).setCell (by simp) _).setCell (by simp) _,HKB.out,((HB2.out.far (by simp) _).far (by simp) _).far (by simp) _,HKT.out,HF.out,HH2.out⟩
      case measure=>
        rw[HU0.out,HU1.out];exact HLESS.out
    · have e1:(k==3)=false:=by simpa using hk
      have hfz:∀q,wr.frozen? ⟨w.heap.size+1,q,none⟩=false:=fun q=>HB2.out.cold q;have d0:wr.cell? ⟨w.heap.size+1,0,none⟩=some (.int .i64 0):=HB2.out.cell 0;have d1:wr.cell? ⟨w.heap.size+1,1,none⟩=some (.int .i64 0):=HB2.out.cell 1;have d2:wr.cell? ⟨w.heap.size+1,2,none⟩=some (.slice none 0 0):=HB2.out.cell 2;have B5:=((HB2.out.at_ 0 (.int .i64 k)).at_ 1 (.int .i64 n)).at_ 2 (.slice A1 l.length c1);have HS0:=hid (B5.cell 0);have HS1:=hid (B5.cell 1);have HS2:=hid (B5.cell 2);have HEQ:=hid (show Zaj t= .node k n l by rw[←HHD.out,(Zn6 (t:= .node k n l) hk).2]);clear B5 hk hgu;go_wp2_with fail;refine bodyPost_ret (v:= .agg #[.int .i64 k,.int .i64 n,.slice A1 l.length c1]) (by simp[results,results36,go_sem,HS0.out,HS1.out,HS2.out]) rfl ?_;rw[HEQ.out];refine⟨A1,c1,rfl, ?_,((HBB.out.setCell (by simp) _).setCell (by simp) _).setCell (by simp) _⟩;exact HU.out.imp (fun b o h1 h2=>by
        have hne:∀o',(⟨w.heap.size+1,o',none⟩:Addr)≠⟨b,o,none⟩:=fun o' e=>by
          have h1:=congrArg Addr.block e;have h3:=HHI.out;simp at h1;omega
        rw[Qa _ _ _ _ (hne _),Qa _ _ _ _ (hne _),Qa _ _ _ _ (hne _)]) Zet Zet
def Zvf (t:TM)(w:World)(lo hi:Nat)(nv:Value)(wr:World):Prop:=
 ∃(u:TM) (A:Option Addr) (c:Nat) (a3:Option Addr) (c3:Nat) (ps:List (TM×Option Addr×Nat)),nv= .slice a3 ps.length c3∧Below w.heap.size w wr∧Bk wr w.heap.size 27 #[.int .i64 u.k,.int .i64 u.n,.slice A u.l.length c]∧
  Zk wr (w.heap.size+1) 27 (.slice a3 ps.length c3) ps (fun b=>lo≤b∧b<hi)∧Za wr lo hi u A c∧Zg u=true∧Jq t=ps.map (·.1)++Jq u
def Z6f (t:TM)(lo hi:Nat)(w:World)(e:Ending)(w':World):Prop:=
 ∃a c ps,e= .returned (.slice a ps.length c)∧Zk w' w.heap.size 27 (.slice a ps.length c) ps (fun b=>lo≤b∧b<hi)∧ps.map (·.1)=Jq t∧Below w.heap.size w w'
theorem Zk.baseT {w:World}{base base':Nat}{e:TypeId}{v:Value}{ps:List (TM×Option Addr×Nat)}{lo hi:Nat}(h:Zk w base e v ps (fun b=>lo≤b∧b<hi))(hb:base'≤base):Zk w base' e v ps (fun b=>lo≤b∧b<hi):=
 ⟨Zmh h.row hb,h.far,h.node⟩
theorem Zty (t:TM)(lo hi:Nat)(A:Option Addr)(cap:Nat)(w:World)(h:Za w lo hi t A cap)(hhi:hi≤w.heap.size)(hs:Zb t=true):
    Calls prog 32 #[Zc t A cap] w (Z6f t lo hi w):=by
  obtain⟨i0,hi0,hz0,hz1,hz2⟩:=info_parts Zc9;have HT:=hid h;have HG:=hid (Zh.1 hs).2.2;have HHI:=hid hhi;have HLN:=hid (show(Jq t).length≤128 by rw[(Zcy hs).1];exact Nat.le_trans (Zjc t) (Zh.1 hs).2.1);have hE:=World.ownsRow_lit (base:=w.heap.size+1) (e:=27) (size:=3) (w.alloc (.cells #[.int .i64 t.k,.int .i64 t.n,.slice A t.l.length cap] 27)) #[] 0 (by simp) (by decide) rfl;have HE:=hid hE;clear h hhi hs hE;unfold Zc;go_enter func32,ntmps32;go_wp2_with fail;go_loopw [3] (Zvf t w lo hi) (fun _ wr=>(@Qb TM ⟨.node 0 0 []⟩ (fun u=>∃A c,Bk wr w.heap.size 27 #[.int .i64 u.k,.int .i64 u.n,.slice A u.l.length c]∧Za wr lo hi u A c)).depth)
  case atStart=>
    refine⟨t,A,cap,_,_,[],rfl,((Below.refl w.heap.size w).alloc Zet _).alloc (by simp) _,(Bk.new w 27 _).alloc _,⟨?_,fun b hb=>⟨by have:=HHI.out;simp;omega,fun e=>by have:=HHI.out;simp[Value.ownBlock]at e;omega⟩,fun _ h=>by cases h⟩,(HT.out.alloc HHI.out _).alloc (by have:=HHI.out;simp;omega) _,HG.out,rfl⟩;have:=HE.out;simpa [Zu]using this
  case round=>
    obtain⟨u,A1,c1,a3,c3,ps,rfl,hB,b1,hrow,hu,hgu,htl⟩:=hrel;have hz:=hB.size;have HB1:=hid b1;have HU:=hid hu;have HBB:=hid hB;have HTL:=hid htl;have HROW:=hid hrow;obtain⟨k,n,l⟩:=u;have hdep:∀(wr':World) (v:TM) (B:Option Addr) (d:Nat),Bk wr' w.heap.size 27 #[.int .i64 v.k,.int .i64 v.n,.slice B v.l.length d]→Za wr' lo hi v B d→
        (@Qb TM ⟨.node 0 0 []⟩ (fun u=>∃A c,Bk wr' w.heap.size 27 #[.int .i64 u.k,.int .i64 u.n,.slice A u.l.length c]∧Za wr' lo hi u A c))=v:=fun wr' v B d h1 h2=>by
      obtain⟨A',c',q1,q2⟩:=Qc (p:=fun u=>∃A c,Bk wr' w.heap.size 27 #[.int .i64 u.k,.int .i64 u.n,.slice A u.l.length c]∧Za wr' lo hi u A c) ⟨v,B,d,h1,h2⟩;exact Zlh h1 h2 q1 q2
    have HDEP:=hid hdep;obtain⟨y0,y1,y2,yl⟩:=(Z8.of b1:Z8 wr w.heap.size k n (.slice A1 l.length c1));clear b1 hu htl hdep hrow;by_cases hk:k=3
    · obtain⟨n',a,f,e0,ha,hf⟩:=Zdl hgu hk;injection e0 with e1 e2 e3;subst e1 e2 e3;obtain⟨bk,o,G,D,hA,hb1,hb2,hy,hnode2⟩:=HU.out.sub 0 (by simp);obtain⟨bk2,o2,F,C,hA2,_,_,hx,hnode⟩:=HU.out.sub 1 (by simp);subst hA;obtain⟨rfl,rfl⟩:bk=bk2∧o=o2:=by
        injection hA2 with q;injection q with q1 q2;exact⟨q1,q2⟩
      simp only[Qd,Qe,Nat.zero_mul,Nat.add_zero,Nat.one_mul]at hx hy hnode hnode2;have hbw:bk<wr.heap.size:=by have:=HHI.out;omega
      have HNO:=hid hnode;have HNO2:=hid hnode2;have HF:=hid hf;have HX:=hid hx;have HBL:=hid hb2;have HTL2:=hid (show Jq t=(ps++[(a,G,D)]).map (·.1)++Jq f by rw[HTL.out,(Znr hf).1];simp);have HLESS:=hid (show f.depth<(TM.node 3 n [a,f]).depth by rw[J0,J7,J7];omega);have HU0:=hid (HDEP.out wr (.node 3 n [a,f]) _ c1 HB1.out HU.out);have HPL:=hid (show ps.length≤1000 by
        have h1:=congrArg List.length HTL.out;rw[Qf,List.length_map]at h1;have h2:=HLN.out;omega)
      obtain⟨z0,z1,z2⟩:=hy;simp only[Qg,Qh]at y2;have R1:=HROW.out.alloc (.cells #[.int .i64 a.k,.int .i64 a.n,.slice G a.l.length D] 27);have HR1:=hid R1;have HOW:=hid R1.row;have HLT0:=hid (fun g (e:(Value.slice a3 ps.length c3).ownBlock=some g)=>R1.row.lt g e);have HBA:=hid (HBB.out.alloc hz (.cells #[.int .i64 a.k,.int .i64 a.n,.slice G a.l.length D] 27));have HKA:=hid (HB1.out.alloc (.cells #[.int .i64 a.k,.int .i64 a.n,.slice G a.l.length D] 27));have HXA:=hid (HX.out.kept ((Below.refl wr.heap.size wr).alloc Zet (.cells #[.int .i64 a.k,.int .i64 a.n,.slice G a.l.length D] 27)) hbw);have HNA:=hid (HNO.out.alloc (by have:=HHI.out;omega) (.cells #[.int .i64 a.k,.int .i64 a.n,.slice G a.l.length D] 27));have HNA2:=hid (HNO2.out.alloc (by have:=HHI.out;omega) (.cells #[.int .i64 a.k,.int .i64 a.n,.slice G a.l.length D] 27));have tk:((3:Int)==3)=true:=rfl;clear R1 hgu hf ha hnode hnode2 hx HTL hA2 HB1 hb2;go_wp2_with (at_builtin;refine Jb rfl _ _ 23 rfl (w.heap.size+1) 27 i0 (.agg #[.int .i64 0,.int .i64 0,.slice none 0 0]) 3 40 Tryz.underlying23 hi0 hz0 hz1 hz2 rfl (by decide) _ _ _ rfl HOW.out (some ⟨wr.heap.size,0,none⟩) 1 1 (Zq (a,G,D)) rfl (Zai _ _ _ (by simp) rfl) (Jx _) ?c3 ?c4 (by simp;omega) ?_)
      case c3=>have:=HPL.out;unfold maxLen;omega
      case c4=>have:=HPL.out;omega
      rintro v2' w3 ⟨hown3,hg3,ho3⟩;obtain⟨a4,c4,rfl⟩:=Zl hown3;have hhi:=HHI.out;have hbl:=HBL.out;have hne:∀g,g<w.heap.size+1→some g≠(Value.slice a3 ps.length c3).ownBlock:=fun g hg e=>by have:=HLT0.out g e.symm;omega
      have K3:=HKA.out.grown hg3 (hne _ (by omega));have hcell:∀b o',b<w.heap.size→w3.cell? ⟨b,o',none⟩=(wr.alloc (.cells #[.int .i64 a.k,.int .i64 a.n,.slice G a.l.length D] 27)).cell? ⟨b,o',none⟩:=fun b o' hb=>hg3.cell_far ⟨b,o',none⟩ (by show b<_;simp;omega) (hne b (by omega));obtain⟨x0',x1',x2'⟩:=HXA.out;have x0:w3.cell? ⟨bk,o+3,none⟩=_:=(hcell bk _ (by omega)).trans x0';have x1:w3.cell? ⟨bk,o+3+1,none⟩=_:=(hcell bk _ (by omega)).trans x1';have x2:w3.cell? ⟨bk,o+3+2,none⟩=_:=(hcell bk _ (by omega)).trans x2';have HF3:=hid (HNA.out.imp (w':=w3) (lo':=lo) (hi':=hi) (fun b o' h1 h2=>hcell b o' (by omega)) Zet Zet);have hp:=HR1.out.push (Pn:=fun b=>lo≤b∧b<hi) (p:=(a,G,D)) HNA2.out (fun b hb=>⟨by simp;omega,fun e=>hne b (by omega) e.symm⟩) hown3 hg3 ho3;have HP3:=hid (show Zk w3 (w.heap.size+1) 27 (.slice a4 (ps++[(a,G,D)]).length c4) (ps++[(a,G,D)]) (fun b=>lo≤b∧b<hi)from by
        rw[Qf];exact⟨hp.row,fun b hb=>hp.far b (.inl hb),fun p hp'=>(hp.node p hp').imp (fun _ _ _=>rfl) (fun b hb=>hb.elim id id)⟩)
      have HB3:=hid (HBA.out.grown hg3 (by simp;omega) (fun g e=>by have:=HLT0.out g e;omega));have HK3:=hid K3;have hsz3:w.heap.size<w3.heap.size:=K3.lt;have hbw3:bk<w3.heap.size:=by omega
      have d0:w3.cell? ⟨w.heap.size,0,none⟩=some (.int .i64 3):=K3.cell 0;have d1:w3.cell? ⟨w.heap.size,1,none⟩=some (.int .i64 n):=K3.cell 1;have d2:w3.cell? ⟨w.heap.size,2,none⟩=some (.slice (some ⟨bk,o,none⟩) 2 c1):=K3.cell 2;have hfz:∀q,w3.frozen? ⟨w.heap.size,q,none⟩=false:=fun q=>K3.cold q;have HREL:=hid (show Zvf t w lo hi (.slice a4 (ps++[(a,G,D)]).length c4) (((w3.setCell ⟨w.heap.size,0,none⟩ (.int .i64 f.k)).setCell ⟨w.heap.size,1,none⟩ (.int .i64 f.n)).setCell ⟨w.heap.size,2,none⟩ (.slice F f.l.length C))from by
        refine⟨f,F,C,a4,c4,ps++[(a,G,D)],rfl,((HB3.out.setCell (by simp) _).setCell (by simp) _).setCell (by simp) _,((HK3.out.at_ 0 (.int .i64 f.k)).at_ 1 (.int .i64 f.n)).at_ 2 (.slice F f.l.length C), ?_,Zd.three HF3.out (fun q hq e=>by have:=hq.2;omega) _ _ _,HF.out,HTL2.out⟩;exact((HP3.out.setCell (a:=⟨w.heap.size,0,none⟩) (by simp) (fun b hq=>by have:=hq.2;simp;omega) _).setCell (a:=⟨w.heap.size,1,none⟩) (by simp) (fun b hq=>by have:=hq.2;simp;omega) _).setCell (a:=⟨w.heap.size,2,none⟩) (by simp) (fun b hq=>by have:=hq.2;simp;omega) _)
      have HU1:=hid (HDEP.out (((w3.setCell ⟨w.heap.size,0,none⟩ (.int .i64 f.k)).setCell ⟨w.heap.size,1,none⟩ (.int .i64 f.n)).setCell ⟨w.heap.size,2,none⟩ (.slice F f.l.length C)) f F C (((HK3.out.at_ 0 (.int .i64 f.k)).at_ 1 (.int .i64 f.n)).at_ 2 (.slice F f.l.length C)) (Zd.three HF3.out (fun q hq e=>by have:=hq.2;omega) _ _ _));have HLN4:=hid (show(ps++[(a,G,D)]).length=ps.length+1 by simp);clear hown3 hg3 ho3 hp K3 hcell hne x0' x1' x2';go_wp2_with fail;go_roundw
      case rel=>first|exact HREL.out|(have:=HREL.out;rw[HLN4.out]at this;exact this)
      case measure=>
        rw[HU0.out,HU1.out];exact HLESS.out
    · have e1:(k==3)=false:=by simpa using hk
      have HEQ:=hid (show ps.map (·.1)=Jq t by rw[HTL.out,(Zn6 (t:= .node k n l) hk).1,List.append_nil]);clear hk hgu;go_wp2_with fail;go_ret;exact⟨a3,c3,ps,rfl,HROW.out.baseT (by omega),HEQ.out,HBB.out⟩
