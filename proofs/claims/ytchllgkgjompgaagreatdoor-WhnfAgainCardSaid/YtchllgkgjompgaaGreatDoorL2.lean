import Derived.Test.YtchllgkgjompgaaGreatDoorM7
import Derived.Test.YtchllgkgjompgaaGreatDoorM4
import Derived.Deep.RegionWith
import Derived.Deep.RegionLaw
import Derived.Test.YtchllgkgjompgaaGreatDoorR3
namespace Go.Proofs.YtchllgkgjompgaaGreatDoor
open Go.RowKit
set_option linter.unusedVariables false
set_option maxRecDepth 100000
open Lib(hid)
def errL (k n:Int):List TM→Int
 | []=>0
 | t::r=>if(liftX t k n).2=0 then errL k n r else(liftX t k n).2
def okL (k n:Int) (l:List TM):Bool:=l.all fun t=>decide ((liftX t k n).2=0)
def mapL (k n:Int) (l:List TM):List TM:=l.map fun t=>(liftX t k n).1
theorem errL_ok (k n:Int):∀l:List TM,okL k n l=true→errL k n l=0
 | [],_=>rfl
 | t::r,h=>by
  unfold okL at h;rw[List.all_cons,Bool.and_eq_true,decide_eq_true_eq]at h;rw[errL,if_pos h.1,errL_ok k n r h.2]
theorem errL_at (k n:Int):∀(l:List TM) (i:Nat) (h:i<l.length),okL k n (l.take i)=true→(liftX l[i] k n).2≠0→errL k n l=(liftX l[i] k n).2
 | t::r,0,_,_,hne=>by rw[errL,if_neg (show ¬ (liftX t k n).2=0 from hne)];rfl
 | t::r,i+1,h,ho,hne=>by
  unfold okL at ho;rw[List.take_succ_cons,List.all_cons,Bool.and_eq_true,decide_eq_true_eq]at ho;rw[errL,if_pos ho.1];exact errL_at k n r i (by simpa using h) ho.2 hne
theorem okL_take (k n:Int) {l:List TM} {i:Nat} (h:i<l.length) (ho:okL k n (l.take i)=true) (hz:(liftX l[i] k n).2=0):okL k n (l.take (i+1))=true:=by
 unfold okL at ho⊢;rw[take_snocM h,List.all_append,ho,List.all_cons,decide_eq_true hz];rfl
theorem mapL_take (k n:Int) {l:List TM} {i:Nat} (h:i<l.length):mapL k n (l.take (i+1))=mapL k n (l.take i)++[(liftX l[i] k n).1]:=by
 unfold mapL;rw[take_snocM h,List.map_append];rfl
def AllIs (ts:List TM) (k n:Int) (w:World) (e:Ending) (w':World):Prop:=
  ((errL k n ts=0∧∃A c,e= .returned (.tuple #[.slice A ts.length c,.int .i64 0])∧IsTerms w' w.heap.size w'.heap.size (mapL k n ts) A c)∨
   (errL k n ts≠0∧e= .returned (.tuple #[.slice none 0 0,.int .i64 (errL k n ts)])))∧Below w.heap.size w w'
def AllRel (ts:List TM) (k n:Int) (w:World) (nv iv:Value) (wr:World):Prop:=
 ∃(i:Nat) (ps:List (TM×Option Addr×Nat)) (P:Nat→Prop),i≤ts.length∧iv= .int .i64 i∧Below w.heap.size w wr∧
  TermRow wr w.heap.size 25 nv ps P∧(∀b,P b→w.heap.size≤b)∧ps.length=i∧ps.map (·.1)=mapL k n (ts.take i)∧okL k n (ts.take i)=true
set_option maxHeartbeats 4000000 in
theorem all_any (ts:List TM) (k n:Int) (lo hi:Nat) (A:Option Addr) (cap:Nat) (w:World) (h:IsTerms w lo hi ts A cap) (hhi:hi≤w.heap.size) (hS:ShapesM w) (hlen:ts.length≤8000):
  Calls Tryz.prog 173 #[.slice A ts.length cap,.int .i64 k,.int .i64 n] w (AllIs ts k n w):=by
 obtain⟨i0,hi0,hz0,hz1,hz2⟩:=info_parts infoM;obtain⟨hl,hm⟩:=h.bounds;have HN:=hid h.sub;have HHI:=hid hhi;have HS:=hid (fun V (hV:Below w.heap.size w V)=>hS.kept hV);unfold maxLen at hm;clear h hhi hS;go_enter Tryz.func173,Tryz.ntmps173;go_wp2_with fail;refine((growM_any ts.length (by omega) _)).mono ?_;rintro e w1 ⟨v0,rfl,ho0,hbx⟩;obtain⟨a0,cc0,rfl⟩:=own_sliceM ho0;have HO0:=hid ho0;have HB0:=hid hbx;have hzx:=hbx.size;clear ho0 hbx;go_wp2_with fail;go_loopw [8,18] (AllRel ts k n w) (fun _ iv _=>ts.length - (intOf iv).toNat)
 case atStart=>exact⟨0,[],fun _=>False,Nat.zero_le _,rfl,HB0.out,⟨HO0.out,fun _ h=>h.elim,fun _ h=>by cases h⟩,fun _ h=>h.elim,rfl,rfl,rfl⟩
 case round=>
  obtain⟨i,ps,P,hi1,rfl,hB,hrow,hP,hps,hpl,hok⟩:=hrel;have hz:=hB.size;obtain⟨a1,c1,rfl⟩:=own_sliceM hrow.row;have HPS:=hid hps;have HROW:=hid hrow;have HPP:=hid hP;have HPL:=hid hpl;have HOK:=hid hok;have HBB:=hid hB;clear hrow hP hpl hps hok;by_cases hil:i<ts.length
  ·obtain⟨bk,o,F,C,hA,hb1,hb2,hx,hnode⟩:=(HN.out i hil).kept hB HHI.out;subst hA;obtain⟨x0',x1',x2'⟩:=hx;have hi1':(i:Int)<(ts.length:Int):=by omega
   have hbw:bk<wr.heap.size:=by have:=HHI.out;omega
   have hmt:=mapL_take k n hil;have hst:=okL_take k n hil HOK.out;have her:=errL_at k n ts i hil HOK.out;have hc:=fun(V:World) (h1:IsTerm V lo hi (ts[i]'hil) F C) (h2:hi≤V.heap.size) (h3:ShapesM V)=>lift_any (ts[i]'hil) k n lo hi F C V h1 h2 h3;obtain⟨x,c,hxc⟩:∃x c,liftX ts[i] k n=(x,c):=⟨_,_,rfl⟩;rw[hxc]at hmt hst her hc;obtain⟨u,hu⟩:∃u,ts[i]=u:=⟨_,rfl⟩;rw[hu]at hc hnode x0' x1' x2';have HMT:=hid hmt;have HST:=hid hst;have HER:=hid her;have HC:=hid (fun V (hV:Below wr.heap.size wr V)=>hc V (hnode.kept hV (by have:=HHI.out;omega)) (by have:=hV.size;have:=HHI.out;omega) (HS.out V (HBB.out.trans (hV.mono hz))));have HWA:=hid (fun o=>(Below.refl wr.heap.size wr).alloc (Nat.le_refl _) o);unfold termV at HC;clear hmt hst her hc hxc hu hnode;go_wp2_with fail;refine(HC.out _ (HWA.out _)).mono ?_;rintro e w2 ⟨A',cap',rfl,hx2,hb2'⟩;rw[termV];have hz2':=hb2'.size;simp at hz2';have hbb:=(HWA.out (.cells #[.int .i64 u.k,.int .i64 u.n,.slice F u.l.length C] 25)).trans (hb2'.mono (by simp));have HB2:=hid hbb;have HX2:=hid (hx2.wide (lo':=wr.heap.size) (by simp) (Nat.le_refl _));have HBW:=hid (HBB.out.trans (hbb.mono hz));clear hb2' hbb hx2 x0' x1' x2';by_cases h0:c=0
   ·have hst:=HST.out h0;have t0:(c !=0)=false:=by rw[h0];rfl
    have HST2:=hid hst;have R1:=((HROW.out.below HB2.out).alloc (.cells #[.int .i64 x.k,.int .i64 x.n,.slice A' x.l.length cap'] 25)).alloc (.cells #[.int .i64 x.k,.int .i64 x.n,.slice A' x.l.length cap'] 25);have HR1:=hid R1;have HOW:=hid R1.row;have hown0:=R1.row.lt;clear R1 h0 hst HST;go_wp2_with (at_builtin;refine wpList_app rfl _ _ 23 rfl w.heap.size 25 i0 (.agg #[.int .i64 0,.int .i64 0,.slice none 0 0]) 3 40 Tryz.underlying23 hi0 hz0 hz1 hz2 rfl (by decide) _ _ _ rfl HOW.out (some ⟨w2.heap.size+1,0,none⟩) 1 1 (cellsM (x,A',cap')) rfl (src_at _ _ _ (by simp) rfl) (cellsM_one _) ?c3 ?c4 ?c5 ?_)
    case c3=>have:=HPS.out;unfold maxLen;omega
    case c4=>have:=HPS.out;omega
    case c5=>simp;omega
    rintro v2' w3 ⟨hown3,hg3,ho3⟩;have HRow:=hid (HR1.out.push (Pn:=fun b=>wr.heap.size≤b∧b<w2.heap.size) (p:=(x,A',cap')) ((HX2.out.alloc (Nat.le_refl _) _).alloc (by simp) _) (fun b hb=>⟨by have:=hb.2;simp;omega,fun e=>by
     have h1:=HROW.out.row.lt b e;omega⟩) hown3 hg3 ho3)
    have HB4:=hid (((HBW.out.alloc HBW.out.size (.cells #[.int .i64 x.k,.int .i64 x.n,.slice A' x.l.length cap'] 25)).alloc (by have:=HBW.out.size;simp;omega) (.cells #[.int .i64 x.k,.int .i64 x.n,.slice A' x.l.length cap'] 25)).grown hg3 (by have:=HBW.out.size;simp;omega) (fun g e=>by have:=hown0 g e;omega));clear hown3 hg3 ho3 hown0;go_wp2_with fail;go_roundw
    case rel=>
     refine⟨i+1,ps++[(x,A',cap')],fun b=>P b∨(wr.heap.size≤b∧b<w2.heap.size),by omega,by go_num,HB4.out,HRow.out, ?_,by have:=HPS.out;simp;omega, ?_,HST2.out⟩
     ·intro b hb;rcases hb with hb|hb
      ·exact HPP.out b hb
      ·omega
     ·rw[List.map_append,HPL.out,HMT.out];rfl
    case measure=>simp[intOf];omega
   ·have t0:(c !=0)=true:=by simpa using h0
    have HE:=hid (HER.out h0);have HNE:=hid h0;clear h0 HER HST;go_wp2_with fail;go_ret2;refine⟨.inr ⟨by rw[HE.out];exact HNE.out,by rw[HE.out];rfl⟩,HBW.out.alloc HBW.out.size _⟩
  ·obtain rfl:i=ts.length:=by omega
   have HFULL:Hid (ps.map (·.1)=mapL k n ts):=hid (by rw[HPL.out,List.take_length]);have HZ:Hid (errL k n ts=0):=hid (errL_ok k n ts (by have:=HOK.out;rwa [List.take_length]at this));have hpar:=HROW.out.parent (lo:=w.heap.size) (Nat.le_refl _) (fun b hb=>HPP.out b hb) 0 0;rw[HFULL.out]at hpar;have HPAR:=hid hpar;clear hpar;go_wp2_with fail;go_ret2;exact⟨.inl ⟨HZ.out,a1,c1,by rw[HPS.out];rfl,HPAR.out⟩,HBB.out⟩
end Go.Proofs.YtchllgkgjompgaaGreatDoor
