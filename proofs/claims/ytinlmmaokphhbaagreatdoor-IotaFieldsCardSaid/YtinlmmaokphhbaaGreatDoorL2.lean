import Derived.Test.YtinlmmaokphhbaaGreatDoorM7
import Derived.Test.YtinlmmaokphhbaaGreatDoorM4
import Derived.Deep.RegionWith
import Derived.Deep.RegionLaw
import Derived.Test.YtinlmmaokphhbaaGreatDoorR3
namespace Go.Proofs.YtinlmmaokphhbaaGreatDoor
open Go.RowKit
set_option linter.unusedVariables false
set_option maxRecDepth 100000
open Lib(hid)
open _root_.List renaming all_cons→Qa,take_length→Qb,map_append→Qc
open _root_.Nat renaming le_refl→Qd
theorem Zk.store {w:World}{base:Nat}{e:TypeId}{v:Value}{ps:List (TM×Option Addr×Nat)}{P:Nat→Prop}(h:Zk w base e v ps P){a:Addr}(ha:a.block<base)(hP:∀b,P b→base≤b)(u:Value):Zk (w.setCell a u) base e v ps P:=
 h.setCell ha (fun b hb e=>by have:=hP b hb;omega) u
def Zf8 (k n:Int):List TM→Int
 | []=>0
 | t::r=>if(Jy t k n).2=0 then Zf8 k n r else(Jy t k n).2
def okL (k n:Int)(l:List TM):Bool:=l.all fun t=>decide ((Jy t k n).2=0)
def Zev (k n:Int)(l:List TM):List TM:=l.map fun t=>(Jy t k n).1
theorem Zvn (k n:Int):∀l:List TM,okL k n l=true→Zf8 k n l=0
 | [],_=>rfl
 | t::r,h=>by
  unfold okL at h;rw[Qa,Bool.and_eq_true,decide_eq_true_eq]at h;rw[Zf8,if_pos h.1,Zvn k n r h.2]
theorem Zvm (k n:Int):∀(l:List TM) (i:Nat) (h:i<l.length),okL k n (l.take i)=true→(Jy l[i] k n).2≠0→Zf8 k n l=(Jy l[i] k n).2
 | t::r,0,_,_,hne=>by rw[Zf8,if_neg (show ¬ (Jy t k n).2=0 from hne)];rfl
 | t::r,i+1,h,ho,hne=>by
  unfold okL at ho;rw[List.take_succ_cons,Qa,Bool.and_eq_true,decide_eq_true_eq]at ho;rw[Zf8,if_pos ho.1];exact Zvm k n r i (by simpa using h) ho.2 hne
theorem Z2i (k n:Int){l:List TM}{i:Nat}(h:i<l.length)(ho:okL k n (l.take i)=true)(hz:(Jy l[i] k n).2=0):okL k n (l.take (i+1))=true:=by
 unfold okL at ho⊢;rw[Zbc h,List.all_append,ho,Qa,decide_eq_true hz];rfl
theorem Zzc (k n:Int){l:List TM}{i:Nat}(h:i<l.length):Zev k n (l.take (i+1))=Zev k n (l.take i)++[(Jy l[i] k n).1]:=by
 unfold Zev;rw[Zbc h,Qc];rfl
def Z29 (ts:List TM)(k n:Int)(w:World)(e:Ending)(w':World):Prop:=
  ((Zf8 k n ts=0∧∃A c,e= .returned (.tuple #[.slice A ts.length c,.int .i64 0])∧Ze w' w.heap.size w'.heap.size (Zev k n ts) A c)∨
   (Zf8 k n ts≠0∧e= .returned (.tuple #[.slice none 0 0,.int .i64 (Zf8 k n ts)])))∧Below w.heap.size w w'
def Z50 (ts:List TM)(k n:Int)(w:World)(nv iv:Value)(wr:World):Prop:=
 ∃(i:Nat) (ps:List (TM×Option Addr×Nat)) (P:Nat→Prop),i≤ts.length∧iv= .int .i64 i∧Below w.heap.size w wr∧
  Zk wr w.heap.size 27 nv ps P∧(∀b,P b→w.heap.size≤b)∧ps.length=i∧ps.map (·.1)=Zev k n (ts.take i)∧okL k n (ts.take i)=true
set_option maxHeartbeats 4000000 in
theorem Zvg (ts:List TM)(k n:Int)(lo hi:Nat)(A:Option Addr)(cap:Nat)(w:World)(h:Ze w lo hi ts A cap)(hhi:hi≤w.heap.size)(hS:Zi w)(hlen:ts.length≤8000):
  Calls Tryz.prog 76 #[.slice A ts.length cap,.int .i64 k,.int .i64 n] w (Z29 ts k n w):=by
 obtain⟨i0,hi0,hz0,hz1,hz2⟩:=info_parts Zc9;obtain⟨hl,hm⟩:=h.bounds;have HN:=hid h.sub;have HHI:=hid hhi;have HS:=hid (fun V (hV:Below w.heap.size w V)=>hS.kept hV);unfold maxLen at hm;clear h hhi hS;go_enter Tryz.func76,Tryz.ntmps76;go_wp2_with fail;refine((Zdw ts.length (by omega) _)).mono ?_;rintro e w1 ⟨v0,rfl,ho0,hbx⟩;obtain⟨a0,cc0,rfl⟩:=Zl ho0;have HO0:=hid ho0;have HB0:=hid hbx;have hzx:=hbx.size;clear ho0 hbx;go_wp2_with fail;go_loopw [8,18] (Z50 ts k n w) (fun _ iv _=>ts.length - (intOf iv).toNat)
 case atStart=>exact⟨0,[],fun _=>False,Nat.zero_le _,rfl,HB0.out,⟨HO0.out,fun _ h=>h.elim,fun _ h=>by cases h⟩,fun _ h=>h.elim,rfl,rfl,rfl⟩
 case round=>
  obtain⟨i,ps,P,hi1,rfl,hB,hrow,hP,hps,hpl,hok⟩:=hrel;have hz:=hB.size;obtain⟨a1,c1,rfl⟩:=Zl hrow.row;have HPS:=hid hps;have HROW:=hid hrow;have HPP:=hid hP;have HPL:=hid hpl;have HOK:=hid hok;have HBB:=hid hB;clear hrow hP hpl hps hok;by_cases hil:i<ts.length
  ·obtain⟨bk,o,F,C,hA,hb1,hb2,hx,hnode⟩:=(HN.out i hil).kept hB HHI.out;subst hA;obtain⟨x0',x1',x2'⟩:=hx;have hi1':(i:Int)<(ts.length:Int):=by omega
   have hbw:bk<wr.heap.size:=by have:=HHI.out;omega
   have hmt:=Zzc k n hil;have hst:=Z2i k n hil HOK.out;have her:=Zvm k n ts i hil HOK.out;have hc:=fun(V:World)(h1:Za V lo hi (ts[i]'hil) F C) (h2:hi≤V.heap.size) (h3:Zi V)=>Zo1 (ts[i]'hil) k n lo hi F C V h1 h2 h3;obtain⟨x,c,hxc⟩:∃x c,Jy ts[i] k n=(x,c):=⟨_,_,rfl⟩;rw[hxc]at hmt hst her hc;obtain⟨u,hu⟩:∃u,ts[i]=u:=⟨_,rfl⟩;rw[hu]at hc hnode x0' x1' x2';have HMT:=hid hmt;have HST:=hid hst;have HER:=hid her;have HC:=hid (fun V (hV:Below wr.heap.size wr V)=>hc V (hnode.kept hV (by have:=HHI.out;omega)) (by have:=hV.size;have:=HHI.out;omega) (HS.out V (HBB.out.trans (hV.mono hz))));have HWA:=hid (fun o=>(Below.refl wr.heap.size wr).alloc (Qd _) o);unfold Zc at HC;clear hmt hst her hc hxc hu hnode;go_wp2_with fail;refine(HC.out _ (HWA.out _)).mono ?_;rintro e w2 ⟨A',cap',rfl,hx2,hb2'⟩;rw[Zc];have hz2':=hb2'.size;simp at hz2';have hbb:=(HWA.out (.cells #[.int .i64 u.k,.int .i64 u.n,.slice F u.l.length C] 27)).trans (hb2'.mono (by simp));have HB2:=hid hbb;have HX2:=hid (hx2.wide (lo':=wr.heap.size) (by simp) (Qd _));have HBW:=hid (HBB.out.trans (hbb.mono hz));clear hb2' hbb hx2 x0' x1' x2';by_cases h0:c=0
   ·have hst:=HST.out h0;have t0:(c !=0)=false:=by rw[h0];rfl
    have HST2:=hid hst;have R1:=((HROW.out.below HB2.out).alloc (.cells #[.int .i64 x.k,.int .i64 x.n,.slice A' x.l.length cap'] 27)).alloc (.cells #[.int .i64 x.k,.int .i64 x.n,.slice A' x.l.length cap'] 27);have HR1:=hid R1;have HOW:=hid R1.row;have hown0:=R1.row.lt;clear R1 h0 hst HST;go_wp2_with (at_builtin;refine Jb rfl _ _ 23 rfl w.heap.size 27 i0 (.agg #[.int .i64 0,.int .i64 0,.slice none 0 0]) 3 40 Tryz.underlying23 hi0 hz0 hz1 hz2 rfl (by decide) _ _ _ rfl HOW.out (some ⟨w2.heap.size+1,0,none⟩) 1 1 (Zq (x,A',cap')) rfl (Zai _ _ _ (by simp) rfl) (Jx _) ?c3 ?c4 ?c5 ?_)
    case c3=>have:=HPS.out;unfold maxLen;omega
    case c4=>have:=HPS.out;omega
    case c5=>simp;omega
    rintro v2' w3 ⟨hown3,hg3,ho3⟩;have HRow:=hid (HR1.out.push (Pn:=fun b=>wr.heap.size≤b∧b<w2.heap.size) (p:=(x,A',cap')) ((HX2.out.alloc (Qd _) _).alloc (by simp) _) (fun b hb=>⟨by have:=hb.2;simp;omega,fun e=>by
     have h1:=HROW.out.row.lt b e;omega⟩) hown3 hg3 ho3)
    have HB4:=hid (((HBW.out.alloc HBW.out.size (.cells #[.int .i64 x.k,.int .i64 x.n,.slice A' x.l.length cap'] 27)).alloc (by have:=HBW.out.size;simp;omega) (.cells #[.int .i64 x.k,.int .i64 x.n,.slice A' x.l.length cap'] 27)).grown hg3 (by have:=HBW.out.size;simp;omega) (fun g e=>by have:=hown0 g e;omega));clear hown3 hg3 ho3 hown0;go_wp2_with fail;go_roundw
    case rel=>
     refine⟨i+1,ps++[(x,A',cap')],fun b=>P b∨(wr.heap.size≤b∧b<w2.heap.size),by omega,by go_num,HB4.out,HRow.out, ?_,by have:=HPS.out;simp;omega, ?_,HST2.out⟩
     ·intro b hb;rcases hb with hb|hb
      ·exact HPP.out b hb
      ·omega
     ·rw[Qc,HPL.out,HMT.out];rfl
    case measure=>simp[intOf];omega
   ·have t0:(c !=0)=true:=by simpa using h0
    have HE:=hid (HER.out h0);have HNE:=hid h0;clear h0 HER HST;go_wp2_with fail;go_ret2;refine⟨.inr ⟨by rw[HE.out];exact HNE.out,by rw[HE.out];rfl⟩,HBW.out.alloc HBW.out.size _⟩
  ·obtain rfl:i=ts.length:=by omega
   have HFULL:Hid (ps.map (·.1)=Zev k n ts):=hid (by rw[HPL.out,Qb]);have HZ:Hid (Zf8 k n ts=0):=hid (Zvn k n ts (by have:=HOK.out;rwa [Qb]at this));have hpar:=HROW.out.parent (lo:=w.heap.size) (Qd _) (fun b hb=>HPP.out b hb) 0 0;rw[HFULL.out]at hpar;have HPAR:=hid hpar;clear hpar;go_wp2_with fail;go_ret2;exact⟨.inl ⟨HZ.out,a1,c1,by rw[HPS.out];rfl,HPAR.out⟩,HBB.out⟩
