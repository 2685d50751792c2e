import Derived.Test.YtinlmmaokphhbaaGreatDoorIoMeth
import Derived.Test.YtinlmmaokphhbaaGreatDoorI4
import Derived.Test.YtinlmmaokphhbaaGreatDoorC5
import Derived.Test.YtinlmmaokphhbaaGreatDoorI2
import Derived.Deep.RegionHeld3
import Derived.Deep.CutRange
import Derived.Test.YtinlmmaokphhbaaGreatDoorI6
namespace Go.Proofs.YtinlmmaokphhbaaGreatDoor
set_option maxHeartbeats 8000000
set_option maxRecDepth 100000
open Go.RowKit
set_option linter.unusedVariables false
open Lib(hid)
open Go.Proofs.Tryz
open Go.RowKit.Below renaming refl→Qa
open Go.Proofs.YtinlmmaokphhbaaGreatDoor.Below renaming dr→Qb,al→Qc,st→Qd
open Bk renaming below→Qe,last→Qf,new→Qg
open _root_.Nat renaming zero_le→Qh,le_of_ble_eq_true→Qi,not_lt_zero→Qj,le_refl→Qk
open _root_.List renaming not_mem_nil→Ql,mem_cons→Qm,map_append→Qn
theorem Zbn{n:Nat}:n≤n:=Qk n
theorem Zcc{a b c:World}(x:Hid (Below a.heap.size a b))(y:Below b.heap.size b c):Below a.heap.size a c:=x.out.trans (y.mono x.out.size)
theorem Ztj:Zj Jj 1=⟨[],[],[]⟩:=by kernel_rfl
theorem Z7d:mK Jj 1=0:=by kernel_rfl
theorem Z7e:mK Jj 2=1:=by kernel_rfl
theorem Z5d:Zlf Z17 0 [] []:=fun _=>⟨[],Z17,by kernel_rfl,rfl,by kernel_rfl,Qh _⟩
theorem Zzi:Zpm Jj 1 where
 la:=by kernel_rfl
 a9:=Qi (by kernel_rfl)
 li:=Qi (by kernel_rfl)
 r24:=fun i h=>absurd h (by rw[Ztj];exact Qj i)
 thr:=fun i h=>absurd h (by rw[Ztj];exact Qj i)
 ok:=fun i h=>absurd h (by rw[Ztj];exact Qj i)
 tl:=fun i h=>absurd h (by rw[Z7d];exact Qj i)
 il:=by kernel_rfl
 up:=by kernel_rfl
theorem Zti:(Zj Jj 2).recs.length=1:=by kernel_rfl
theorem Zzj:Zpm Jj 2 where
 la:=by kernel_rfl
 a9:=Qi (by kernel_rfl)
 li:=Qi (by kernel_rfl)
 r24:=fun i h=>by
  obtain rfl:i=0:=by have h2:=h;rw[Zti]at h2;omega
  have e:((Zj Jj 2).recs[0]'h).ar.length=0:=by kernel_rfl
  omega
 thr:=fun i h h2 _=>by
  obtain rfl:i=0:=by have h3:=h;rw[Zti]at h3;omega
  have e1:(Zj Jj 2).args[0]'h2=Z17:=by kernel_rfl
  have e2:((Zj Jj 2).recs[0]'h).ar.length=0:=by kernel_rfl
  have e3:Zdb Jj 2=[]:=by kernel_rfl
  rw[e1,e2,e3,List.take_zero];exact Z5d
 ok:=fun i h _=>by
  obtain rfl:i=0:=by have h2:=h;rw[Zti]at h2;omega
  kernel_rfl
 tl:=fun i h=>by
  obtain rfl:i=0:=by have h2:=h;rw[Z7e]at h2;omega
  kernel_rfl
 il:=by kernel_rfl
 up:=by kernel_rfl
def J5:TM:=(Zqv 0 Zkn 0).1
def Zo4 (i:Nat):TM:=(Zl3 Jj (1+i)).1
def Zew (i:Nat):List TM:=(List.range i).map Zo4
def Zhe:List TM:=[J5]++Zcx (Zew 2) 2
def Zw8:TM:=Ziw 0 0 0 3
def Zb6:TM:=Zac (.node 1 3 []) [.node 1 0 []]
def Zam:TM:=(Zf0 3 (Zhe++[Zw8]) Zb6).1
theorem Zw9 (i:Nat):Zew (i+1)=Zew i++[Zo4 i]:=by unfold Zew;rw[List.range_succ,Qn];rfl
theorem Zzf (i:Nat):(Zew i).length=i:=by unfold Zew;simp
theorem Z7a:Zqv 0 Zkn 0=(J5,0):=by kernel_rfl
theorem Z44:Zl3 Jj 1=(Zo4 0,0):=by kernel_rfl
theorem Z45:Zl3 Jj 2=(Zo4 1,0):=by kernel_rfl
theorem Z14:Zf0 3 (Zhe++[Zw8]) Zb6=(Zam,0):=by kernel_rfl
theorem Z15:Zam.k=3:=by kernel_rfl
theorem Zxa:Z7 4=[.node 1 3 [],.node 1 2 [],.node 1 1 [],.node 1 0 []]:=by kernel_rfl
theorem Z46 {i:Nat}(h:i<2):Zpm Jj (1+i):=by
 rcases(show i=0∨i=1 by omega)with rfl|rfl
 ·exact Zzi
 ·exact Zzj
theorem Z47 {i:Nat}(h:i<2):Zl3 Jj (1+i)=(Zo4 i,0):=by
 rcases(show i=0∨i=1 by omega)with rfl|rfl
 ·exact Z44
 ·exact Z45
theorem Jn {w:World}{g i j:Nat}{v:Value}(h:i≠j):(w.setCell ⟨g,i,none⟩ v).cell? ⟨g,j,none⟩=w.cell? ⟨g,j,none⟩:=World.cell?_setCell_other w ⟨g,i,none⟩ ⟨g,j,none⟩ v (fun e=>h (by injection e))
theorem Zq5 {w:World}{g i:Nat}{u v:Value}(h:w.cell? ⟨g,i,none⟩=some u):(w.setCell ⟨g,i,none⟩ v).cell? ⟨g,i,none⟩=some v:=by
 exact World.cell?_setCell_same _ _ _ h
def Zv7 (w:World)(ge:Nat)(C:Option Addr)(cc:Nat):Prop:=ge<w.heap.size∧w.cell? ⟨ge,10,none⟩=some (.int .i64 0)∧w.cell? ⟨ge,13,none⟩=some (.slice C 2 cc)
theorem Zv7.kept {w w':World}{ge B:Nat}{C:Option Addr}{cc:Nat}(h:Zv7 w ge C cc)(hb:Below B w w')(hB:ge<B):Zv7 w' ge C cc:=
 ⟨Nat.lt_of_lt_of_le h.1 hb.size,(hb.cell (p:=⟨ge,10,none⟩) hB).trans h.2.1,(hb.cell (p:=⟨ge,13,none⟩) hB).trans h.2.2⟩
theorem Zxd (w:World)(lo hi:Nat)(A:Option Addr){c:Nat}(h:c≤maxLen):Ze w lo hi [] A c:=Zd.mk 0 0 [] A c (fun _=>none) (fun _=>0) (Qh _) h (fun h=>by simp at h) (fun i h=>by simp at h)
theorem Z8e:∀u∈Zb6.l,Zg u=true:=by
 intro u hu;have hu':u∈[TM.node 1 3 [],TM.node 1 0 []]:=hu;simp only[Qm,Ql,or_false]at hu';rcases hu' with rfl|rfl
 ·exact(show Zg (.node 1 3 [])=true from by kernel_rfl)
 ·exact(show Zg (.node 1 0 [])=true from by kernel_rfl)
def Z78 (Y:World)(nv iv:Value)(wr:World):Prop:=
 ∃(i:Nat) (ps:List (TM×Option Addr×Nat)) (P:Nat→Prop),i≤2∧iv= .int .i64 i∧Below Y.heap.size Y wr∧Zk wr Y.heap.size 27 nv ps P∧(∀b,P b→Y.heap.size≤b)∧ps.length=i∧ps.map (·.1)=Zew i
theorem Zsh (A B:Option Addr)(cap bap hi g:Nat)(w:World)(hr:J8 w hi g Jj A B cap bap)(hS:Zi w):
    Calls prog 27 #[.pointer (some ⟨g,0,none⟩),.int .i64 0,.int .i64 0] w (Zn (Zam,0) w):=by
  have hhl:=hr.hl;have hgl:=hr.gl;have HRR:=hid (fun V (hV:Below w.heap.size w V)=>hr.below hV);have HSS:=hid (fun V (hV:Below w.heap.size w V)=>hS.kept hV);obtain⟨b,o,p,hA, -,hb0,hx,hent⟩:=hr.ents 0 (by decide);subst hA;have hxx:Zmi w b (o+0*15) Zkn p:=hx;have HIC:=hid (show Zby w 0 hi p.C [1,2]from hent.hc);have hlc:2≤p.cc:=hent.lc;have hcl:3≤cap:=hr.lc;rw[Nat.zero_mul,Nat.add_zero]at hxx;obtain⟨T,tc,B0,bc,C,cc,D,dc⟩:=p;have HKT:=hid (fun V (hV:Below w.heap.size w V)=>(show V.cell? ⟨g,0,none⟩=some (.slice (some ⟨b,o,none⟩) 3 cap)∧V.cell? ⟨b,o,none⟩=some (.int .i64 1)∧V.cell? ⟨b,o+1,none⟩=some (.string ⟨#[78,97,116]⟩)∧V.cell? ⟨b,o+2,none⟩=some (.int .i64 2)∧V.cell? ⟨b,o+2+1,none⟩=some (.int .i64 0)∧V.cell? ⟨b,o+2+2,none⟩=some (.slice T 0 tc)∧V.cell? ⟨b,o+5,none⟩=some (.int .i64 0)∧V.cell? ⟨b,o+5+1,none⟩=some (.int .i64 0)∧V.cell? ⟨b,o+5+2,none⟩=some (.slice B0 0 bc)∧V.cell? ⟨b,o+8,none⟩=some (.int .i64 0)∧V.cell? ⟨b,o+9,none⟩=some (.int .i64 0)∧V.cell? ⟨b,o+10,none⟩=some (.int .i64 0)∧V.cell? ⟨b,o+11,none⟩=some (.int .i64 0)∧V.cell? ⟨b,o+12,none⟩=some (.int .i64 0)∧V.cell? ⟨b,o+13,none⟩=some (.slice C 2 cc)∧V.cell? ⟨b,o+14,none⟩=some (.slice D 0 dc)from by
    have h2:=hxx.kept (hV.mono hhl) hb0;exact⟨(hr.below hV).c0,h2.c0,h2.c1,h2.c2,h2.c3,h2.c4,h2.c5,h2.c6,h2.c7,h2.c8,h2.c9,h2.c10,h2.c11,h2.c12,h2.c13,h2.c14⟩))
  have CT:=hid (fun V (hV:Below w.heap.size w V)=>(show Calls prog 44 #[.pointer (some ⟨g,0,none⟩),.int .i64 0] V (fun e w'=>∃A c,e= .returned (.slice A 0 c)∧c≤maxLen∧Below V.heap.size V w')from
    (Zp4 Jj _ B cap bap hi g 0 (by decide) V (HRR.out V hV) rfl (HSS.out V hV)).mono fun e w' h=>by
      obtain⟨A,c,h1,h2,h3⟩:=h;exact⟨A,c,h1,h2.bounds.2,h3⟩))
  have CM:=hid (fun V (hV:Below w.heap.size w V)=>(show Calls prog 45 #[.pointer (some ⟨g,0,none⟩),.int .i64 0,.int .i64 0] V (Zn (J5,0) V)from by
    have:=Zui Jj _ B cap bap hi g 0 0 (by decide) V (HRR.out V hV) rfl (HSS.out V hV);rw[show Zqv ((0:Nat):Int) Jj[0] 0=(J5,0)from Z7a]at this;exact this))
  have CME:=hid (fun(i:Nat)(hi2:i<2)(V:World)(hV:Below w.heap.size w V)=>(show Calls prog 46 #[.pointer (some ⟨g,0,none⟩),.int .i64 ((i:Int)+1)] V (Zn (Zo4 i,0) V)from by
    have hlt:1+i<Jj.length:=by show 1+i<3;omega
    have:=Zw6 Jj _ B cap bap hi g (1+i) hlt V (HRR.out V hV) (by rcases(show i=0∨i=1 by omega)with rfl|rfl<;>rfl) (Z46 hi2) (HSS.out V hV);rw[Z47 hi2,show((1+i:Nat):Int)=(i:Int)+1 by omega]at this;exact this))
  have HIR:=hid (fun(i:Nat)(hi2:i<2)(V:World)(hV:Below w.heap.size w V)=>(show ∃bc oc,C=some ⟨bc,oc,none⟩∧bc<w.heap.size∧V.cell? ⟨bc,oc+i,none⟩=some (.int .i64 ((i:Int)+1))from by
    obtain⟨bc,oc,h1,_,h3,h4⟩:=HIC.out i (by simpa using hi2);refine⟨bc,oc,h1,by omega,(hV.cell (p:=⟨bc,oc+i,none⟩) (by show bc<w.heap.size;omega)).trans (h4.trans ?_)⟩;rcases(show i=0∨i=1 by omega)with rfl|rfl<;>rfl))
  unfold Zn Zc at CM CME;simp only at CM CME;obtain⟨X,hX⟩:∃X,w.alloc (.cells #[.int .i64 0,.int .i64 0,.slice none 0 0] 27)=X:=⟨_,rfl⟩;have HBX:=hid (show Below w.heap.size w X from by rw[←hX];exact(Qa _ _).alloc Zbn _);have HKX:=hid (show Bk X w.heap.size 27 #[.int .i64 0,.int .i64 0,.slice none 0 0]from by rw[←hX];exact Qg w _ _);have HKTX:=hid (fun V (hV:Below X.heap.size X V)=>HKT.out V (Zcc HBX hV));have CTX:=hid (fun V (hV:Below X.heap.size X V)=>CT.out V (Zcc HBX hV));have hgX:g<X.heap.size:=by have:=HBX.out.size;omega
  have hbX:b<X.heap.size:=by have:=HBX.out.size;omega
  have hbk0:=hid (show Below X.heap.size X X.drew from(Qa _ _).drew);obtain⟨g0,e0,e1,e2,e3,e4,e5,e6,e7,e8,e9,e10,e11,e12,e13,e14⟩:=HKTX.out X (Qa _ _);clear hr hS hx hent hxx CT;have hcap3:(3:Int)≤(cap:Int):=by omega
  go_enter func27,ntmps27;go_wp2_with fail;go_cut [8,9]from 22 to 31 (fun s8 s9 wx=>∃ge T1 c1,s8= .pointer (some ⟨ge,0,none⟩)∧s9= .slice T1 0 c1∧c1≤maxLen∧X.heap.size≤ge∧Zv7 wx ge C cc∧Below X.heap.size X wx)
  case first=>
    go_region_held3 (fun w'=>w'.cell? ⟨g,0,none⟩=some (.slice (some ⟨b,o,none⟩) 3 cap)∧w'.cell? ⟨b,o,none⟩=some (.int .i64 1)∧w'.cell? ⟨b,o+1,none⟩=some (.string ⟨#[78,97,116]⟩)∧w'.cell? ⟨b,o+2,none⟩=some (.int .i64 2)∧w'.cell? ⟨b,o+2+1,none⟩=some (.int .i64 0)∧w'.cell? ⟨b,o+2+2,none⟩=some (.slice T 0 tc)∧w'.cell? ⟨b,o+5,none⟩=some (.int .i64 0)∧w'.cell? ⟨b,o+5+1,none⟩=some (.int .i64 0)∧w'.cell? ⟨b,o+5+2,none⟩=some (.slice B0 0 bc)∧w'.cell? ⟨b,o+8,none⟩=some (.int .i64 0)∧w'.cell? ⟨b,o+9,none⟩=some (.int .i64 0)∧w'.cell? ⟨b,o+10,none⟩=some (.int .i64 0)∧w'.cell? ⟨b,o+11,none⟩=some (.int .i64 0)∧w'.cell? ⟨b,o+12,none⟩=some (.int .i64 0)∧w'.cell? ⟨b,o+13,none⟩=some (.slice C 2 cc)∧w'.cell? ⟨b,o+14,none⟩=some (.slice D 0 dc))
      ((refine(HKTX.out _ ?_);repeat (first|with_reducible exact hbk0.out|with_reducible exact hbC.out|with_reducible exact Qa _ _|with_reducible refine Qc ?_ _|with_reducible refine Qb ?_|with_reducible refine Qd ?_ (by first|omega|(simp<;>omega)) _)))
      (first
      | (go_at_call 44
         refine(CTX.out _ (by repeat (first|with_reducible exact hbk0.out|with_reducible exact Qa _ _|with_reducible refine Qc ?_ _|with_reducible refine Qb ?_|with_reducible refine Qd ?_ (by first|omega|(simp<;>omega)) _))).mono ?_;rintro e w3 ⟨T1,c1,rfl,hc1,hb3⟩;have hbC:=hid (by first|exact Zcc hbk0 hb3|exact(hbk0.out.alloc hbk0.out.size _).trans (hb3.mono (hbk0.out.alloc hbk0.out.size _).size));have hzC:=hbC.out.size
         first
         | (have hbz2:=hid (Qe hbz.out hb3 (by have:=hbz.out.lt;simp<;>omega));have hbz:=hbz2;clear hbz2)
         | (have hbz2:=hid (Qe (hbz.out.alloc _) hb3 (by have:=hbz.out.lt;simp<;>omega));have hbz:=hbz2;clear hbz2)
         | (have hbz:Hid (Bk w3 (X.heap.size) 36 #[.int .i64 0,.string ⟨#[]⟩,.int .i64 0,.int .i64 0,.slice none 0 0,.int .i64 0,.int .i64 0,.slice none 0 0,.int .i64 0,.int .i64 0,.int .i64 0,.int .i64 0,.int .i64 0,.slice none 0 0,.slice none 0 0]):=hid (Qe (show Bk _ (X.heap.size) 36 #[.int .i64 0,.string ⟨#[]⟩,.int .i64 0,.int .i64 0,.slice none 0 0,.int .i64 0,.int .i64 0,.slice none 0 0,.int .i64 0,.int .i64 0,.int .i64 0,.int .i64 0,.int .i64 0,.slice none 0 0,.slice none 0 0]from(Qf X.drew 36 #[.int .i64 0,.string ⟨#[]⟩,.int .i64 0,.int .i64 0,.slice none 0 0,.int .i64 0,.int .i64 0,.slice none 0 0,.int .i64 0,.int .i64 0,.int .i64 0,.int .i64 0,.int .i64 0,.slice none 0 0,.slice none 0 0] (by simp))) hb3 (by simp<;>omega)))
         | (have hbz:Hid (Bk w3 (X.heap.size) 36 #[.int .i64 0,.string ⟨#[]⟩,.int .i64 0,.int .i64 0,.slice none 0 0,.int .i64 0,.int .i64 0,.slice none 0 0,.int .i64 0,.int .i64 0,.int .i64 0,.int .i64 0,.int .i64 0,.slice none 0 0,.slice none 0 0]):=hid (Qe (show Bk _ (X.heap.size) 36 #[.int .i64 0,.string ⟨#[]⟩,.int .i64 0,.int .i64 0,.slice none 0 0,.int .i64 0,.int .i64 0,.slice none 0 0,.int .i64 0,.int .i64 0,.int .i64 0,.int .i64 0,.int .i64 0,.slice none 0 0,.slice none 0 0]from((Qf X.drew 36 #[.int .i64 0,.string ⟨#[]⟩,.int .i64 0,.int .i64 0,.slice none 0 0,.int .i64 0,.int .i64 0,.slice none 0 0,.int .i64 0,.int .i64 0,.int .i64 0,.int .i64 0,.int .i64 0,.slice none 0 0,.slice none 0 0] (by simp)).alloc _)) hb3 (by simp<;>omega)))
         | (have hbz:Hid (Bk w3 (X.heap.size+1) 36 #[.int .i64 0,.string ⟨#[]⟩,.int .i64 0,.int .i64 0,.slice none 0 0,.int .i64 0,.int .i64 0,.slice none 0 0,.int .i64 0,.int .i64 0,.int .i64 0,.int .i64 0,.int .i64 0,.slice none 0 0,.slice none 0 0]):=hid (Qe (show Bk _ (X.heap.size+1) 36 #[.int .i64 0,.string ⟨#[]⟩,.int .i64 0,.int .i64 0,.slice none 0 0,.int .i64 0,.int .i64 0,.slice none 0 0,.int .i64 0,.int .i64 0,.int .i64 0,.int .i64 0,.int .i64 0,.slice none 0 0,.slice none 0 0]from(Qf (X.drew.alloc _) 36 #[.int .i64 0,.string ⟨#[]⟩,.int .i64 0,.int .i64 0,.slice none 0 0,.int .i64 0,.int .i64 0,.slice none 0 0,.int .i64 0,.int .i64 0,.int .i64 0,.int .i64 0,.int .i64 0,.slice none 0 0,.slice none 0 0] (by simp))) hb3 (by simp<;>omega)))
         | skip
         have HC1:=hid hc1
         first
         | (have hfz:∀q,w3.frozen? ⟨_,q,none⟩=false:=fun q=>hbz.out.cold q
            have d0:=hbz.out.cell 0;have d1:=hbz.out.cell 1;have d2:=hbz.out.cell 2;have d3:=hbz.out.cell 3;have d4:=hbz.out.cell 4;have d5:=hbz.out.cell 5;have d6:=hbz.out.cell 6;have d7:=hbz.out.cell 7;have d8:=hbz.out.cell 8;have d9:=hbz.out.cell 9;have d10:=hbz.out.cell 10;have d11:=hbz.out.cell 11;have d12:=hbz.out.cell 12;have d13:=hbz.out.cell 13;have d14:=hbz.out.cell 14;simp at d0 d1 d2 d3 d4 d5 d6 d7 d8 d9 d10 d11 d12 d13 d14)
         | skip
         clear hb3 hc1))
    all_goals
      go_wp2_with fail;go_meet;case rel=>
        first
        | exact⟨_,T1,c1,rfl,rfl,HC1.out,hzC,⟨by simp,(Qg w3 _ _).cell 10,(Qg w3 _ _).cell 13⟩,(by repeat (first|with_reducible exact hbC.out|with_reducible exact Qa _ _|with_reducible refine Qc ?_ _|with_reducible refine Qb ?_|with_reducible refine Qd ?_ (by first|omega|(simp<;>omega)) _))⟩
        | exact⟨_,T1,c1,rfl,rfl,HC1.out,Qk _,⟨by have:=hbz.out.lt;simpa [World.setCell]using this,((Jn (by decide)).trans ((Jn (by decide)).trans ((Jn (by decide)).trans ((Jn (by decide)).trans (Zq5 ((Jn (by decide)).trans ((Jn (by decide)).trans ((Jn (by decide)).trans ((Jn (by decide)).trans ((Jn (by decide)).trans ((Jn (by decide)).trans ((Jn (by decide)).trans ((Jn (by decide)).trans ((Jn (by decide)).trans ((Jn (by decide)).trans d10))))))))))))))),((Jn (by decide)).trans (Zq5 ((Jn (by decide)).trans ((Jn (by decide)).trans ((Jn (by decide)).trans ((Jn (by decide)).trans ((Jn (by decide)).trans ((Jn (by decide)).trans ((Jn (by decide)).trans ((Jn (by decide)).trans ((Jn (by decide)).trans ((Jn (by decide)).trans ((Jn (by decide)).trans ((Jn (by decide)).trans ((Jn (by decide)).trans d13)))))))))))))))⟩,(by repeat (first|with_reducible exact hbC.out|with_reducible exact Qa _ _|with_reducible refine Qc ?_ _|with_reducible refine Qb ?_|with_reducible refine Qd ?_ (by first|omega|(simp<;>omega)) _))⟩
  case rest=>
    obtain⟨wa,rfl⟩:∃wa:World,wa=wc:=⟨_,rfl⟩;obtain⟨ge,T1,c1,rfl,rfl,hc1,hge,hfb,hba⟩:=hcut;have HBA:=hid (Zcc HBX hba);have HFB:=hid hfb;have HC1:=hid hc1;have HZA:=hid (HKX.out.below hba HKX.out.lt);have hgl1:=hfb.1;clear hba hfb hc1 HKTX hX;try clear g0 e0 e1 e2 e3 e4 e5 e6 e7 e8 e9 e10 e11 e12 e13 e14 hbk0
    go_wp2_with fail;refine(CM.out _ HBA.out).mono ?_;rintro e w1 ⟨F1,f1,rfl,hm1,hb1⟩;have HB1:=hid (Zcc HBA hb1);have HF1:=hid (HFB.out.kept hb1 hgl1);have HZ1:=hid (HZA.out.below hb1 HZA.out.lt);have HM1:=hid hm1;have hge1:=HF1.out.1;have hz1:wa.heap.size≤w1.heap.size:=hb1.size;clear hb1 hm1;obtain⟨Y,hY⟩:∃Y,w1.alloc (.cells #[.int .i64 J5.k,.int .i64 J5.n,.slice F1 J5.l.length f1] 27)=Y:=⟨_,rfl⟩;have HYE:=hid hY;have HBY0:=hid (show Below w1.heap.size w1 Y from by rw[←hY];exact(Qa _ _).alloc Zbn _);have HBY:=hid (Zcc HB1 HBY0.out);have HKM:=hid (show Bk Y w1.heap.size 27 #[.int .i64 J5.k,.int .i64 J5.n,.slice F1 J5.l.length f1]from by rw[←hY];exact Qg w1 _ _);have HFY:=hid (HF1.out.kept HBY0.out hge1);have HZY:=hid (HZ1.out.below HBY0.out HZ1.out.lt);have HMY:=hid ((HM1.out.kept HBY0.out Zbn).wide (lo':=0) (Qh _) HBY0.out.size);have f13:w1.cell? ⟨ge,13,none⟩=some (.slice C 2 cc):=HF1.out.2.2;have hgeY:=HFY.out.1;clear hY;go_wp2_with fail;rw[HYE.out];obtain⟨i0,hi0,hz0,hz1',hz2⟩:=info_parts Zc9;clear f13;go_loopw [12,46] (Z78 Y) (fun _ iv _=>2 - (intOf iv).toNat)
    case atStart=>exact⟨0,[],fun _=>False,Qh _,rfl,Qa _ _,⟨World.ownsRow_nil _ _ _ _,fun _ h=>h.elim,fun _ h=>by cases h⟩,fun _ h=>h.elim,rfl,rfl⟩
    case round=>
      obtain⟨i,ps,P,hi1,rfl,hB,hrow,hP,hps,hpm⟩:=hrel;have hz:=hB.size;obtain⟨a1,cr,rfl⟩:=Zl hrow.row;have HPS:=hid hps;have HROW:=hid hrow;have HPP:=hid hP;have HPM:=hid hpm;have HBB:=hid hB;have HBW:=hid (Zcc HBY hB);clear hrow hP hpm hps;by_cases hil:i<2
      · obtain⟨bc',oc',hC,hbc,hcell⟩:=HIR.out i hil wr HBW.out;subst hC;have hi1':(i:Int)<2:=by omega
        have hi2':(i:Int)≤(cc:Int):=by omega
        have hi0':(0:Int)≤(i:Int):=by omega
        have hbw:bc'<wr.heap.size:=by have:=HBW.out.size;omega
        have CF:=hid (CME.out i hil wr HBW.out);have hmt:=Zw9 i;have HIL:=hid hil;obtain⟨x,hx⟩:∃x,Zo4 i=x:=⟨_,rfl⟩;rw[hx]at CF hmt;have HMT:=hid hmt;clear hmt hx hil;go_wp2_with fail;refine CF.out.mono ?_;rintro e w2 ⟨A',cap',rfl,hnx,hb2⟩;have HBX2:=hid hb2;have HBWC:=hid (HBB.out.trans (hb2.mono hz));have HNX:=hid hnx;have hzc:=hb2.size;clear hb2 hnx CF hcell;have hps9:ps.length≤8000:=by have:=HPS.out;have:=HIL.out;omega
        have R1:=((HROW.out.below HBX2.out).alloc (.cells #[.int .i64 x.k,.int .i64 x.n,.slice A' x.l.length cap'] 27)).alloc (.cells #[.int .i64 x.k,.int .i64 x.n,.slice A' x.l.length cap'] 27);have HR1:=hid R1;have HOW:=hid R1.row;have hown0:=R1.row.lt;have HBW2:=hid ((HBWC.out.alloc HBWC.out.size (.cells #[.int .i64 x.k,.int .i64 x.n,.slice A' x.l.length cap'] 27)).alloc (HBWC.out.alloc HBWC.out.size (.cells #[.int .i64 x.k,.int .i64 x.n,.slice A' x.l.length cap'] 27)).size (.cells #[.int .i64 x.k,.int .i64 x.n,.slice A' x.l.length cap'] 27));clear R1;go_wp2_with (at_builtin;refine Jb rfl _ _ 23 rfl Y.heap.size 27 i0 (.agg #[.int .i64 0,.int .i64 0,.slice none 0 0]) 3 40 Tryz.underlying23 hi0 hz0 hz1' hz2 rfl (by decide) _ _ _ rfl HOW.out (some ⟨w2.heap.size+1,0,none⟩) 1 1 (Zq (x,A',cap')) rfl (Zai _ _ _ (by simp) rfl) (Jx _) ?c3 ?c4 ?c5 ?_)
        case c3=>unfold maxLen;omega
        case c4=>omega
        case c5=>have:=HBWC.out.size;simp;omega
        rintro v2' w3 ⟨hown3,hg3,ho3⟩;have HRow:=hid (HR1.out.push (Pn:=fun b=>wr.heap.size≤b∧b<w2.heap.size) (p:=(x,A',cap')) (Zd.imp (fun b o hb=>(((Qa w2.heap.size w2).alloc Zbn (.cells #[.int .i64 x.k,.int .i64 x.n,.slice A' x.l.length cap'] 27)).alloc (by simp) (.cells #[.int .i64 x.k,.int .i64 x.n,.slice A' x.l.length cap'] 27)).cell (p:=⟨b,o,none⟩) hb.2) (fun b hb=>hb) HNX.out) (fun b hb=>⟨by have:=hb.2;simp;omega,fun e=>by
          have h1:=HROW.out.row.lt b e;omega⟩) hown3 hg3 ho3)
        have HB4:=hid (HBW2.out.grown hg3 (by have:=HBWC.out.size;simp;omega) (fun g e=>by have:=hown0 g e;omega));clear hown3 hg3 ho3 hown0;go_wp2_with fail;go_roundw
        case rel=>
          refine⟨i+1,ps++[(x,A',cap')],fun b=>P b∨(wr.heap.size≤b∧b<w2.heap.size),by have:=HIL.out;omega,by go_num,HB4.out,HRow.out, ?_,by have:=HPS.out;simp;omega, ?_⟩
          · intro b hb;rcases hb with hb|hb
            · exact HPP.out b hb
            · omega
          · rw[Qn,HPM.out,HMT.out];rfl
        case measure=>have:=HIL.out;simp[intOf];omega
      · have HIN:=hid (show i=2 by omega);have hge: ¬ (i:Int)<2:=by omega
        have hpar:=HROW.out.parent (lo:=0) (Qh _) (fun b hb=>Qh _) 0 0;rw[HPM.out,HIN.out]at hpar;have HMS:=hid hpar;have hp2:ps.length=2:=by rw[HPS.out,HIN.out]
        have HMSW:=hid (fun V (hV:Below wr.heap.size wr V)=>(show Ze V 0 wr.heap.size (Zew 2) a1 cr from HMS.out.kept hV Zbn));have HFR:=hid (HFY.out.kept HBB.out HFY.out.1);have HKMR:=hid (HKM.out.below HBB.out HKM.out.lt);have HZR:=hid (HZY.out.below HBB.out HZY.out.lt);have HMR:=hid (HMY.out.kept HBB.out Zbn);have CTL:=hid (fun(A:Option Addr)(c:Nat)(hc:c≤maxLen)(V:World)(hV:Below w.heap.size w V)=>(show Calls prog 47 #[.slice A 0 c,.int .i64 3,.int .i64 0] V (fun e w'=>∃A' c',e= .returned (.tuple #[.slice A' 0 c',.int .i64 0])∧c'≤maxLen∧Below V.heap.size V w')from by
          have:=Zrv [] A c 3 0 V (Zxd _ _ _ _ hc) ⟨by decide,by decide⟩ (Qh _) (HSS.out V hV);refine this.mono fun e w' h=> ?_;obtain⟨h1,h2⟩:=h;rcases h1 with ⟨_,A',c',e1,e2⟩|⟨i,hi,_⟩
          · exact⟨A',c',e1,e2.bounds.2,h2⟩
          · exact absurd hi (Qj i)))
        rw[hp2];have r10:wr.cell? ⟨ge,10,none⟩=some (.int .i64 0):=HFR.out.2.1;have hgew:ge<wr.heap.size:=HFR.out.1;have hc9:=HC1.out;unfold maxLen at hc9;clear hpar;go_wp2_with fail;refine(CTL.out _ _ HC1.out _ HBW.out).mono ?_;rintro e w2 ⟨Ai,ci,rfl,hci,hb2⟩;have HB2:=hid (Zcc HBW hb2);have HB2r:=hid hb2;have HCI:=hid hci;have HF2:=hid (HFR.out.kept hb2 hgew);have HKM2:=hid (HKMR.out.below hb2 HKMR.out.lt);have HZ2:=hid (HZR.out.below hb2 HZR.out.lt);clear hb2 hci r10 CTL;go_wp2_with fail;have HMS2:=hid (fun V (hV:Below w2.heap.size w2 V)=>(show Ze V 0 V.heap.size (Zew 2) a1 cr from(HMSW.out V (Zcc HB2r hV)).wide Zbn (by have:=hV.size;have:=HB2r.out.size;omega)));have HM2:=hid (fun V (hV:Below w2.heap.size w2 V)=>(show Za V 0 V.heap.size J5 F1 f1 from(HMR.out.kept (Zcc HBB HB2r.out|>fun _=>(Zcc HB2r hV).mono HBB.out.size) Zbn).wide Zbn (by have h1:=HBB.out.size;have h2:=HB2r.out.size;have h3:=hV.size;omega)));have CST:=hid (fun V (hV:Below w2.heap.size w2 V)=>(show Calls prog 49 #[.slice a1 2 cr] V (Zbj (Zcx (Zew 2) 2) V)from Zop (Zew 2) a1 cr V (HMS2.out V hV) (by rw[Zzf];omega) (HSS.out V (Zcc HB2 hV))));have CCt:=hid (fun(V:World)(g4:Nat)(e4:TypeId)(g2:Nat)(e2:TypeId)(As:Option Addr)(cs:Nat)(hV:Below w2.heap.size w2 V)(hs:Ze V 0 V.heap.size (Zcx (Zew 2) 2) As cs) (hb4:Bk V g4 e4 #[.slice T1 0 c1,.slice (some ⟨g2,0,none⟩) 1 1,.slice As 2 cs,.slice Ai 0 ci]) (hb2:Bk V g2 e2 #[.int .i64 J5.k,.int .i64 J5.n,.slice F1 J5.l.length f1])=>(show Calls prog 48 #[.slice (some ⟨g4,0,none⟩) 4 4] V (Zjl Zhe V.heap.size V)from by
          have hls:Zc5 V V.heap.size g4 [([],T1,c1),([J5],some ⟨g2,0,none⟩,1),(Zcx (Zew 2) 2,As,cs),([],Ai,ci)]:=Zc5.of (e:=e4) (by
            show Bk V g4 e4 #[.slice T1 0 c1,.slice (some ⟨g2,0,none⟩) 1 1,.slice As (Zcx (Zew 2) 2).length cs,.slice Ai 0 ci]
            rw[Zhh];exact hb4) Zbn (fun p hp=>by
            simp only[Qm,Ql,or_false]at hp;rcases hp with rfl|rfl|rfl|rfl
            · exact Zxd _ _ _ _ HC1.out
            · exact Zm9 (HM2.out V hV) hb2 ⟨Qh _,hb2.lt⟩ 0 0
            · exact hs
            · exact Zxd _ _ _ _ HCI.out)
          have hfl:Jh [([],T1,c1),([J5],some ⟨g2,0,none⟩,1),(Zcx (Zew 2) 2,As,cs),([],Ai,ci)]=Zhe:=by unfold Jh Zhe;simp
          have:=Zhy _ V.heap.size g4 V hls (by simp) (by rw[hfl];unfold Zhe;rw[List.length_append,Zhh];simp);rw[hfl]at this;exact this))
        unfold Zbj at CST;unfold Zjl at CCt;rw[Zhh]at CST;rw[show Zhe.length=3 from rfl]at CCt;have HKK:=hid (fun V (hV:Below w2.heap.size w2 V)=>(show V.cell? ⟨ge,10,none⟩=some (.int .i64 0)∧V.cell? ⟨w1.heap.size,0,none⟩=some (.int .i64 J5.k)∧V.cell? ⟨w1.heap.size,1,none⟩=some (.int .i64 J5.n)∧V.cell? ⟨w1.heap.size,2,none⟩=some (.slice F1 J5.l.length f1)from by
          have k:=HKM2.out.below hV HKM2.out.lt;have f:=HF2.out.kept hV HF2.out.1;exact⟨f.2.1,k.cell 0,k.cell 1,k.cell 2⟩))
        have hbk2:=hid (show Below w2.heap.size w2 w2.drew from(Qa _ _).drew);obtain⟨m10,m0,m1,m2⟩:=HKK.out w2 (Qa _ _);have hgw2:ge<w2.heap.size:=HF2.out.1;have hmw2:w1.heap.size<w2.heap.size:=HKM2.out.lt;go_cut [19]from 76 to 86 (fun s19 wx=>∃AL cL ps base,s19= .slice AL 3 cL∧Zk wx base 27 (.slice AL 3 cL) ps (fun b=>b<base)∧ps.map (·.1)=Zhe∧(w2.heap.size≤base∧base≤wx.heap.size)∧Below w2.heap.size w2 wx)
        case first=>
          go_region_held3 (fun w'=>w'.cell? ⟨ge,10,none⟩=some (.int .i64 0)∧w'.cell? ⟨w1.heap.size,0,none⟩=some (.int .i64 J5.k)∧w'.cell? ⟨w1.heap.size,1,none⟩=some (.int .i64 J5.n)∧w'.cell? ⟨w1.heap.size,2,none⟩=some (.slice F1 J5.l.length f1))
            ((refine(HKK.out _ ?_);repeat (first|with_reducible exact hbk2.out|with_reducible exact hbC.out|with_reducible exact hbP.out|with_reducible exact Qa _ _|with_reducible refine Qc ?_ _|with_reducible refine Qb ?_|with_reducible refine Qd ?_ (by first|omega|(simp<;>omega)) _)))
            (first
            | (go_at_call 48
               refine(CCt.out _ _ 23 _ 27 As cs (by repeat (first|with_reducible exact hbC.out|with_reducible exact Qa _ _|with_reducible refine Qc ?_ _|with_reducible refine Qb ?_|with_reducible refine Qd ?_ (by first|omega|(simp<;>omega)) _)) (by first|exact(HS3.out.kept ((Qa _ _).alloc Zbn _) Zbn).wide Zbn (by simp)|exact(HS3.out.kept (((Qa _ _).alloc Zbn _).alloc (by simp) _) Zbn).wide Zbn (by simp<;>omega)) (by first|exact(Qf _ _ _ (by simp))) (by first|exact hbz.out.alloc _|exact(Qf _ _ _ (by simp)).alloc _)).mono ?_;rintro e w4 ⟨AL,cL,ps4,rfl,hr4,hp4,hb4⟩;have hbP:=hid (by first|exact Zcc hbC hb4|exact(hbC.out.alloc hbC.out.size _).trans (hb4.mono (hbC.out.alloc hbC.out.size _).size)|exact((hbC.out.alloc hbC.out.size _).alloc (hbC.out.alloc hbC.out.size _).size _).trans (hb4.mono ((hbC.out.alloc hbC.out.size _).alloc (hbC.out.alloc hbC.out.size _).size _).size));have HR4:=hid hr4;have HZB4:=hid hb4.size;have HP4:=hid hp4;have hzC2:=hbC.out.size;clear hb4 hr4 hp4)
            | (go_at_call 49
               refine(CST.out _ (by repeat (first|with_reducible exact hbk2.out|with_reducible exact Qa _ _|with_reducible refine Qc ?_ _|with_reducible refine Qb ?_|with_reducible refine Qd ?_ (by first|omega|(simp<;>omega)) _))).mono ?_;rintro e w3 ⟨As,cs,rfl,hs3,hb3⟩;have hbC:=hid (by first|exact Zcc hbk2 hb3|exact(hbk2.out.alloc hbk2.out.size _).trans (hb3.mono (hbk2.out.alloc hbk2.out.size _).size));have hzC:=hbC.out.size
               first
               | (have hbz2:=hid (Qe hbz.out hb3 (by have:=hbz.out.lt;simp<;>omega));have hbz:=hbz2;clear hbz2)
               | (have hbz2:=hid (Qe (hbz.out.alloc _) hb3 (by have:=hbz.out.lt;simp<;>omega));have hbz:=hbz2;clear hbz2)
               | (have hbz:Hid (Bk w3 (w2.heap.size) 27 #[.int .i64 J5.k,.int .i64 J5.n,.slice F1 J5.l.length f1]):=hid (Qe (show Bk _ (w2.heap.size) 27 #[.int .i64 J5.k,.int .i64 J5.n,.slice F1 J5.l.length f1]from(Qf w2.drew 27 #[.int .i64 J5.k,.int .i64 J5.n,.slice F1 J5.l.length f1] (by simp))) hb3 (by simp<;>omega)))
               | (have hbz:Hid (Bk w3 (w2.heap.size) 27 #[.int .i64 J5.k,.int .i64 J5.n,.slice F1 J5.l.length f1]):=hid (Qe (show Bk _ (w2.heap.size) 27 #[.int .i64 J5.k,.int .i64 J5.n,.slice F1 J5.l.length f1]from((Qf w2.drew 27 #[.int .i64 J5.k,.int .i64 J5.n,.slice F1 J5.l.length f1] (by simp)).alloc _)) hb3 (by simp<;>omega)))
               | (have hbz:Hid (Bk w3 (w2.heap.size+1) 27 #[.int .i64 J5.k,.int .i64 J5.n,.slice F1 J5.l.length f1]):=hid (Qe (show Bk _ (w2.heap.size+1) 27 #[.int .i64 J5.k,.int .i64 J5.n,.slice F1 J5.l.length f1]from(Qf (w2.drew.alloc _) 27 #[.int .i64 J5.k,.int .i64 J5.n,.slice F1 J5.l.length f1] (by simp))) hb3 (by simp<;>omega)))
               | skip
               have HS3:=hid hs3;clear hb3 hs3))
          all_goals
            go_wp2_with fail;go_meet;case rel=>exact⟨AL,cL,ps4,_,rfl,HR4.out,HP4.out,⟨by first|exact hzC2|(simp;omega),HZB4.out⟩,(by repeat (first|with_reducible exact hbP.out|with_reducible exact Qa _ _|with_reducible refine Qc ?_ _|with_reducible refine Qb ?_|with_reducible refine Qd ?_ (by first|omega|(simp<;>omega)) _))⟩
        case rest=>
          obtain⟨wb,rfl⟩:∃wb:World,wb=wc:=⟨_,rfl⟩;obtain⟨AL,cL,psA,base,rfl,hrA,hpA,hbase,hbb⟩:=hcut;obtain⟨p0,p1,p2,rfl⟩:∃p0 p1 p2,psA=[p0,p1,p2]:=by
            have hl3:psA.length=3:=by
              have:=congrArg List.length hpA;rw[List.length_map]at this;exact this
            match psA,hl3 with
            | [p0,p1,p2],_=>exact⟨p0,p1,p2,rfl⟩
          have HBB2:=hid hbb;have HRA:=hid hrA;have HPA:=hid hpA;have HBASE:=hid hbase.1;have HBL:=hid hbase.2;have hzb:=hbb.size;clear hrA hpA hbb CST CCt hbk2 m10 m0 m1 m2;have CV:=hid (fun(V:World)=>(show Calls prog 50 #[.int .i64 4] V (Zqh (Z7 4) V)from Zrx 4 (by omega) V));unfold Zqh at CV;rw[show(Z7 4).length=4 from rfl]at CV;go_wp2_with fail;refine(CV.out _).mono ?_;rintro e w3 ⟨Av,cv,rfl,hv3,hb3⟩;have HV3:=hid hv3;have HB3:=hid (Zcc HBB2 hb3);have HBv:=hid hb3;clear hb3 hv3;go_wp2_with fail;obtain⟨bv,ov,Fv,Cv,hAv, -,hbvl,hxv,hnv⟩:=HV3.out.sub 0 (by rw[show(Z7 4).length=4 from rfl];omega);have hcv4:4≤cv:=by have:=HV3.out.bounds.1;rw[show(Z7 4).length=4 from rfl]at this;exact this
          have hcvm:=HV3.out.bounds.2;subst hAv;have hxv2:Zh6 w3 bv ov (.node 1 3 []) Fv Cv:=by
            have:=hxv;simpa [Zxa]using this
          have hnv2:Za w3 wb.heap.size w3.heap.size (.node 1 3 []) Fv Cv:=by simpa [Zxa]using hnv
          have HNV:=hid hnv2;have HRV:=hid (show Ze w3 wb.heap.size w3.heap.size [.node 1 0 []] (some ⟨bv,ov+9,none⟩) (cv - 3)from by
            have:=Ze.rest (n:=3) HV3.out (by rw[show(Z7 4).length=4 from rfl];omega);rw[if_neg (by omega)]at this;rw[Zxa]at this;exact this)
          have CA:=hid (fun(V:World)(g4:Nat)(e4:TypeId)(hV:Below w3.heap.size w3 V)(hb4:Bk V g4 e4 #[.slice (some ⟨bv,ov+9,none⟩) 1 (cv - 3)])=>(show Calls prog 51 #[.agg #[.int .i64 1,.int .i64 3,.slice Fv 0 Cv],.slice (some ⟨g4,0,none⟩) 1 1] V (Zqg wb.heap.size Zb6 V)from by
            have hls:Zqj V wb.heap.size V.heap.size g4 [([.node 1 0 []],some ⟨bv,ov+9,none⟩,cv - 3)]:=Zqj.of (e:=e4) (by exact hb4) Zbn (fun p hp=>by
              simp only[Qm,Ql,or_false]at hp;subst hp;exact(HRV.out.kept hV Zbn).wide Zbn hV.size)
            have:=Zq4 wb.heap.size (.node 1 3 []) Fv Cv _ V.heap.size g4 V (by have:=HBv.out.size;have:=hV.size;omega) ((HNV.out.kept hV Zbn).wide Zbn hV.size) hls (by simp);rw[show Jh [([TM.node 1 0 []],(some ⟨bv,ov+9,none⟩:Option Addr),cv - 3)]=[.node 1 0 []]from by unfold Jh;simp]at this;exact this))
          unfold Zqg Zc at CA;have HF3:=hid (HF2.out.kept HB3.out HF2.out.1);have HZ3:=hid (HZ2.out.below HB3.out HZ2.out.lt);have HKV:=hid (fun V (hV:Below w3.heap.size w3 V)=>(show V.cell? ⟨ge,10,none⟩=some (.int .i64 0)∧V.cell? ⟨bv,ov,none⟩=some (.int .i64 1)∧V.cell? ⟨bv,ov+1,none⟩=some (.int .i64 3)∧V.cell? ⟨bv,ov+2,none⟩=some (.slice Fv 0 Cv)from by
            obtain⟨z0,z1,z2⟩:=hxv2.kept hV hbvl;exact⟨(HF3.out.kept hV HF3.out.1).2.1,z0,z1,z2⟩))
          have hbk3:=hid (show Below w3.heap.size w3 w3.drew from(Qa _ _).drew);obtain⟨m10,v0,v1,v2⟩:=HKV.out w3 (Qa _ _);have hgw3:ge<w3.heap.size:=HF3.out.1;have hbv3:bv<w3.heap.size:=hbvl;have hcq: ¬ cv=3:=by omega
          have hcq4:(4:Int)≤(cv:Int):=by omega
          have hcq3:(3:Int)≤(cv:Int):=by omega
          have hcq5:3≤cv:=by omega
          have hcq6: ¬ (cv≤3):=by omega
          have hcq7: ¬ (cv - 3=0):=by omega
          have hcq8:(4:Nat)≤cv:=by omega
          have hcq9: ¬ 3=cv:=by omega
          have hws:IntKind.i64.wrap ((3:Int) - 0)=3:=IntWalk.i64_in _ (by omega);have hws2:IntKind.i64.wrap 3=3:=IntWalk.i64_in _ (by omega);clear hxv hnv hxv2 hnv2 hcvm CV;go_cut [21]from 91 to 104 (fun s21 wx=>∃gv Ax cx,s21= .pointer (some ⟨gv,0,none⟩)∧Z8 wx gv Zb6.k Zb6.n (.slice Ax Zb6.l.length cx)∧Below w3.heap.size w3 wx∧Za wx wb.heap.size wx.heap.size Zb6 Ax cx∧w3.heap.size≤gv)
          case first=>
            go_region_held3 (fun w'=>w'.cell? ⟨ge,10,none⟩=some (.int .i64 0)∧w'.cell? ⟨bv,ov,none⟩=some (.int .i64 1)∧w'.cell? ⟨bv,ov+1,none⟩=some (.int .i64 3)∧w'.cell? ⟨bv,ov+2,none⟩=some (.slice Fv 0 Cv))
              ((refine(HKV.out _ ?_);repeat (first|with_reducible exact hbk3.out|with_reducible exact hbC.out|with_reducible exact Qa _ _|with_reducible refine Qc ?_ _|with_reducible refine Qb ?_|with_reducible refine Qd ?_ (by first|omega|(simp<;>omega)) _)))
              (first
              | (go_at_call 51
                 refine(CA.out _ _ 23 (by repeat (first|with_reducible exact hbk3.out|with_reducible exact Qa _ _|with_reducible refine Qc ?_ _|with_reducible refine Qb ?_|with_reducible refine Qd ?_ (by first|omega|(simp<;>omega)) _)) (by first|exact(Qf _ _ _ (by simp))|exact((Qf _ _ _ (by simp)).alloc _))).mono ?_;rintro e w4 ⟨Ax,cx,rfl,hx4,hb4⟩;have hbC:=hid (by first|exact Zcc hbk3 hb4|exact(hbk3.out.alloc hbk3.out.size _).trans (hb4.mono (hbk3.out.alloc hbk3.out.size _).size)|exact((hbk3.out.alloc hbk3.out.size _).alloc (hbk3.out.alloc hbk3.out.size _).size _).trans (hb4.mono ((hbk3.out.alloc hbk3.out.size _).alloc (hbk3.out.alloc hbk3.out.size _).size _).size));have hzC:=hbC.out.size
                 first
                 | (have hbz2:=hid (Qe hbz.out hb4 (by have:=hbz.out.lt;simp<;>omega));have hbz:=hbz2;clear hbz2)
                 | (have hbz2:=hid (Qe (hbz.out.alloc _) hb4 (by have:=hbz.out.lt;simp<;>omega));have hbz:=hbz2;clear hbz2)
                 | (have hbz2:=hid (Qe ((hbz.out.alloc _).alloc _) hb4 (by have:=hbz.out.lt;simp<;>omega));have hbz:=hbz2;clear hbz2)
                 | (have hbz:Hid (Bk w4 (w3.heap.size) 27 #[.int .i64 0,.int .i64 0,.slice none 0 0]):=hid (Qe (show Bk _ (w3.heap.size) 27 #[.int .i64 0,.int .i64 0,.slice none 0 0]from(Qf w3.drew 27 #[.int .i64 0,.int .i64 0,.slice none 0 0] (by simp))) hb4 (by simp<;>omega)))
                 | (have hbz:Hid (Bk w4 (w3.heap.size) 27 #[.int .i64 0,.int .i64 0,.slice none 0 0]):=hid (Qe (show Bk _ (w3.heap.size) 27 #[.int .i64 0,.int .i64 0,.slice none 0 0]from((Qf w3.drew 27 #[.int .i64 0,.int .i64 0,.slice none 0 0] (by simp)).alloc _)) hb4 (by simp<;>omega)))
                 | (have hbz:Hid (Bk w4 (w3.heap.size) 27 #[.int .i64 0,.int .i64 0,.slice none 0 0]):=hid (Qe (show Bk _ (w3.heap.size) 27 #[.int .i64 0,.int .i64 0,.slice none 0 0]from(((Qf w3.drew 27 #[.int .i64 0,.int .i64 0,.slice none 0 0] (by simp)).alloc _).alloc _)) hb4 (by simp<;>omega)))
                 | (have hbz:Hid (Bk w4 (w3.heap.size+1) 27 #[.int .i64 0,.int .i64 0,.slice none 0 0]):=hid (Qe (show Bk _ (w3.heap.size+1) 27 #[.int .i64 0,.int .i64 0,.slice none 0 0]from(Qf (w3.drew.alloc _) 27 #[.int .i64 0,.int .i64 0,.slice none 0 0] (by simp))) hb4 (by simp<;>omega)))
                 | (have hbz:Hid (Bk w4 (w3.heap.size+1) 27 #[.int .i64 0,.int .i64 0,.slice none 0 0]):=hid (Qe (show Bk _ (w3.heap.size+1) 27 #[.int .i64 0,.int .i64 0,.slice none 0 0]from((Qf (w3.drew.alloc _) 27 #[.int .i64 0,.int .i64 0,.slice none 0 0] (by simp)).alloc _)) hb4 (by simp<;>omega)))
                 | (have hbz:Hid (Bk w4 (w3.heap.size+1+1) 27 #[.int .i64 0,.int .i64 0,.slice none 0 0]):=hid (Qe (show Bk _ (w3.heap.size+1+1) 27 #[.int .i64 0,.int .i64 0,.slice none 0 0]from(Qf ((w3.drew.alloc _).alloc _) 27 #[.int .i64 0,.int .i64 0,.slice none 0 0] (by simp))) hb4 (by simp<;>omega)))
                 | skip
                 have HX4:=hid hx4
                 first
                 | (have hfz:∀q,w4.frozen? ⟨_,q,none⟩=false:=fun q=>hbz.out.cold q
                    have d0:=hbz.out.cell 0;have d1:=hbz.out.cell 1;have d2:=hbz.out.cell 2;simp at d0 d1 d2)
                 | skip
                 clear hb4 hx4))
            all_goals
              go_wp2_with fail;go_meet;case rel=>
                first
                | exact⟨_,Ax,cx,rfl,Z8.of (((hbz.out.at_ 0 (.int .i64 Zb6.k)).at_ 1 (.int .i64 Zb6.n)).at_ 2 (.slice Ax Zb6.l.length cx)),(by repeat (first|with_reducible exact hbC.out|with_reducible exact Qa _ _|with_reducible refine Qc ?_ _|with_reducible refine Qb ?_|with_reducible refine Qd ?_ (by first|omega|(simp<;>omega)) _)),(Zd.three (Za.free HX4.out Z8e hbz.out) (fun b hb=>hb.2) _ _ _).imp (fun _ _ _=>rfl) (fun b hb=>⟨hb.1.1,by rw[Z2];exact hb.1.2⟩),by omega⟩
                | exact⟨_,Ax,cx,rfl,Z8.of (Qg w4 _ _),(by repeat (first|with_reducible exact hbC.out|with_reducible exact Qa _ _|with_reducible refine Qc ?_ _|with_reducible refine Qb ?_|with_reducible refine Qd ?_ (by first|omega|(simp<;>omega)) _)),(HX4.out.kept ((Qa _ _).alloc Zbn _) Zbn).wide Zbn (by simp),hzC⟩
          case rest=>
            obtain⟨wd,rfl⟩:∃wd:World,wd=wc:=⟨_,rfl⟩;obtain⟨gv,Ax,cx,rfl,htb,hbd,hnx,hgv⟩:=hcut;have HBD:=hid hbd;have HTBD:=hid htb;have HNX:=hid hnx;have HGV:=hid hgv;have HZD:=hid (HZ3.out.below hbd HZ3.out.lt);have HWD:=hid (HB2.out.trans ((Zcc HB3 hbd).mono HB2.out.size));have HRD:=hid ((HRA.out.below HBv.out).below (hbd));have CFA:=hid (fun V (hV:Below wd.heap.size wd V)=>(show Calls prog 54 #[.pointer (some ⟨g,0,none⟩),.int .i64 0,.int .i64 3] V (fun e w'=>∃Xa Xc,e= .returned (.agg #[.int .i64 6,.int .i64 0,.slice Xa 0 Xc])∧Xc≤maxLen∧Below V.heap.size V w')from by
              have:=Zoe Jj _ B cap bap hi g 0 3 (by decide) V (HRR.out V (Zcc HWD hV)) rfl (by decide) (by omega);rw[show Ziw ((0:Nat):Int) Jj[0].a.toNat Jj[0].i.toNat 3= .node 6 0 []from by kernel_rfl]at this;refine this.mono fun e w' h=> ?_;obtain⟨Xa,Xc,h1,h2,h3⟩:=h;exact⟨Xa,Xc,h1,h2.bounds.2,h3⟩))
            have CL:=hid (fun V (hV:Below w.heap.size w V) (L:Option Addr) (cl:Nat) (hl:Ze V 0 V.heap.size ([p0,p1,p2].map (·.1)++[.node 6 0 []]) L cl) (hx:Za V 0 V.heap.size Zb6 Ax cx)=>(show Calls prog 52 #[.func (.func 53) #[] #[],.slice L 4 cl,.agg #[.int .i64 Zb6.k,.int .i64 Zb6.n,.slice Ax Zb6.l.length cx]] V (Zn (Zam,0) V)from by
              rw[HPA.out]at hl;have hf:Zw8= .node 6 0 []:=by kernel_rfl
              rw[←hf]at hl;have:=Zi8 (Zhe++[Zw8]) L cl Zb6 Ax cx V hl hx (HSS.out V hV);rw[Z14]at this;exact this))
            unfold Zn Zc at CL;simp only at CL;have HRL:=hid (fun g1 (e:(Value.slice AL 3 cL).ownBlock=some g1)=>HRA.out.row.lt g1 e);have HKG:=hid (fun V (hV:Below wd.heap.size wd V)=>(show V.cell? ⟨gv,0,none⟩=some (.int .i64 Zb6.k)∧V.cell? ⟨gv,1,none⟩=some (.int .i64 Zb6.n)∧V.cell? ⟨gv,2,none⟩=some (.slice Ax Zb6.l.length cx)from by
              obtain⟨z0,z1,z2,_⟩:=HTBD.out.kept hV HTBD.out.lt;exact⟨z0,z1,z2⟩))
            have hbk4:=hid (show Below wd.heap.size wd wd.drew from(Qa _ _).drew);obtain⟨s0,s1,s2⟩:=HKG.out wd (Qa _ _);have hgvl:=HTBD.out.lt;have hz3b:wb.heap.size≤w3.heap.size:=HBv.out.size;have hwgv:w.heap.size<gv:=by have h1:=HGV.out;have h2:=HKX.out.lt;have h3:=hgeY;have h4:=HZ2.out.lt;omega
            clear htb hbd hnx hgv CA hbk3 m10 v0 v1 v2;go_wp2_with fail;go_region_held3 (fun w'=>w'.cell? ⟨gv,0,none⟩=some (.int .i64 Zb6.k)∧w'.cell? ⟨gv,1,none⟩=some (.int .i64 Zb6.n)∧w'.cell? ⟨gv,2,none⟩=some (.slice Ax Zb6.l.length cx))
              ((first
                | with_reducible exact HKS6.out
                | (refine HKG5.out _ ?_;(repeat (first|with_reducible exact Qa _ _|with_reducible exact hbL.out|with_reducible refine Qc ?_ _|with_reducible refine Qb ?_));done)
                | (refine HKG.out _ ?_;(repeat (first|with_reducible exact hbC.out|with_reducible exact hbk4.out|with_reducible exact Qa _ _|with_reducible refine Qc ?_ _|with_reducible refine Qb ?_));done)))
              (first
              | (go_at_call 52
                 refine(CL.out _ HB5w.out a5 c5 HA5.out HX5.out).mono ?_;rintro e w6 ⟨A6,c6,rfl,hn6,hb6⟩;have hbL:=hid (show Below w5.heap.size w5 w6 from hb6);have HB6:=hid (Zcc HB5 hb6);have HN6:=hid (show Za w6 w5.heap.size w6.heap.size Zam A6 c6 from hn6);have K6:=HZ2.out.below HB6.out HZ2.out.lt;have HK6:=hid K6;have hfz:∀q,w6.frozen? ⟨w.heap.size,q,none⟩=false:=fun q=>HK6.out.cold q;have d0:w6.cell? ⟨w.heap.size,0,none⟩=some (.int .i64 0):=HK6.out.cell 0;have d1:w6.cell? ⟨w.heap.size,1,none⟩=some (.int .i64 0):=HK6.out.cell 1;have d2:w6.cell? ⟨w.heap.size,2,none⟩=some (.slice none 0 0):=HK6.out.cell 2;have HKS6:=hid (show(((w6.setCell ⟨w.heap.size,0,none⟩ (.int .i64 Zam.k)).setCell ⟨w.heap.size,1,none⟩ (.int .i64 Zam.n)).setCell ⟨w.heap.size,2,none⟩ (.slice A6 Zam.l.length c6)).cell? ⟨gv,0,none⟩=some (.int .i64 Zb6.k)∧(((w6.setCell ⟨w.heap.size,0,none⟩ (.int .i64 Zam.k)).setCell ⟨w.heap.size,1,none⟩ (.int .i64 Zam.n)).setCell ⟨w.heap.size,2,none⟩ (.slice A6 Zam.l.length c6)).cell? ⟨gv,1,none⟩=some (.int .i64 Zb6.n)∧(((w6.setCell ⟨w.heap.size,0,none⟩ (.int .i64 Zam.k)).setCell ⟨w.heap.size,1,none⟩ (.int .i64 Zam.n)).setCell ⟨w.heap.size,2,none⟩ (.slice A6 Zam.l.length c6)).cell? ⟨gv,2,none⟩=some (.slice Ax Zb6.l.length cx)from by
                   obtain⟨z0,z1,z2⟩:=HKG5.out _ hbL.out;exact⟨(Zhx (by omega)).trans z0,(Zhx (by omega)).trans z1,(Zhx (by omega)).trans z2⟩)
                 clear K6 hb6 hn6)
              | (go_at_call 54
                 refine(CFA.out _ (by repeat (first|with_reducible exact hbk4.out|with_reducible exact Qa _ _|with_reducible refine Qc ?_ _|with_reducible refine Qb ?_|with_reducible refine Qd ?_ (by first|omega|(simp<;>omega)) _))).mono ?_;rintro e w4 ⟨Xa,Xc,rfl,hxc,hb4⟩;have hbC:=hid (Zcc hbk4 hb4);have hzC:=hbC.out.size;have HXC:=hid hxc;have HR4:=hid (HRD.out.below hbC.out);clear hb4 hxc)
              | (refine Zdm rfl (.tmp 105) (.tmp 111) 23 rfl _ 27 i0 (.agg #[.int .i64 0,.int .i64 0,.slice none 0 0]) 3 40 Tryz.underlying23 hi0 hz0 hz1' hz2 rfl (by decide) (.slice AL 3 cL) 3 (Zu [p0,p1,p2]) rfl (HR4.out.alloc _).row (some ⟨w4.heap.size,0,none⟩) 1 1 (Zq (.node 6 0 [],Xa,Xc)) rfl (Zai _ _ _ (by simp) rfl) (Jx _) (by unfold maxLen;omega) (by omega) (by have:=HBASE.out;have h1:=hzb;have h2:=HBv.out.size;have h3:=HBD.out.size;have:=HBL.out;simp;omega) ?_
                 rintro v5 w5 ha5;have hal5:=hid (show Below w4.heap.size w4 (w4.alloc (.cells #[.int .i64 6,.int .i64 0,.slice Xa 0 Xc] 27))from(Qa _ _).alloc Zbn _);have hza5:(w4.alloc (.cells #[.int .i64 6,.int .i64 0,.slice Xa 0 Xc] 27)).heap.size=w4.heap.size+1:=by simp
                 have hgr:=hid ha5.2.1;have hfar:=hid (fun(b i:Nat)(h1:wb.heap.size≤b)(h2:b<wd.heap.size)=>(show w5.cell? ⟨b,i,none⟩=wd.cell? ⟨b,i,none⟩from
                   (hgr.out.cell_far ⟨b,i,none⟩ (by show b<_;rw[hza5];omega) (fun e=>by have:=HRL.out b e.symm;omega)).trans ((hal5.out.cell (p:=⟨b,i,none⟩) (by show b<_;omega)).trans (hbC.out.cell (p:=⟨b,i,none⟩) h2))))
                 obtain⟨a5,c5,rfl,hA5,hB5⟩:=Zq0 (ps:=[p0,p1,p2]) (Pn:=fun _=>False) (x:= .node 6 0 []) (Xa:=Xa) (Xc:=Xc) (HR4.out.alloc _) (Zd.mk 6 0 [] Xa Xc (fun _=>none) (fun _=>0) (Qh _) HXC.out (fun h=>by simp at h) (fun i h=>by simp at h)) (fun b hb=>hb.elim) (by have:=HBL.out;rw[hza5];have h2:=HBv.out.size;have h3:=HBD.out.size;omega) ha5;rw[show([p0,p1,p2].length+1)=4 from rfl];have HB5:=hid (hB5 w2 ((HB3.out.trans ((hbC.out.trans (hal5.out.mono hzC)|>fun q=>Zcc HBD q).mono HB3.out.size))) HBASE.out);have HB5w:=hid (Zcc HB2 HB5.out);have HA5:=hid hA5;have hz5:wd.heap.size≤w5.heap.size:=by have:=hgr.out.size;rw[hza5]at this;omega
                 have HKG5:=hid (fun V (hV:Below w5.heap.size w5 V)=>(show V.cell? ⟨gv,0,none⟩=some (.int .i64 Zb6.k)∧V.cell? ⟨gv,1,none⟩=some (.int .i64 Zb6.n)∧V.cell? ⟨gv,2,none⟩=some (.slice Ax Zb6.l.length cx)from by
                   obtain⟨z0,z1,z2⟩:=HKG.out wd (Qa _ _);have hg:=HGV.out;exact⟨(hV.cell (p:=⟨gv,0,none⟩) (by show gv<_;omega)).trans ((hfar.out gv 0 (by omega) hgvl).trans z0),(hV.cell (p:=⟨gv,1,none⟩) (by show gv<_;omega)).trans ((hfar.out gv 1 (by omega) hgvl).trans z1),(hV.cell (p:=⟨gv,2,none⟩) (by show gv<_;omega)).trans ((hfar.out gv 2 (by omega) hgvl).trans z2)⟩))
                 have hbL:=hid (Qa w5.heap.size w5);have HX5:=hid (show Za w5 0 w5.heap.size Zb6 Ax cx from Zd.imp (fun b o hb=>hfar.out b o hb.1 hb.2) (fun b hb=>⟨Qh _,by have:=hb.2;omega⟩) HNX.out);clear ha5 hA5 hB5 hza5))
            all_goals
              have B5:=((HK6.out.at_ 0 (.int .i64 Zam.k)).at_ 1 (.int .i64 Zam.n)).at_ 2 (.slice A6 Zam.l.length c6);have HS0:=hid (B5.cell 0);have HS1:=hid (B5.cell 1);have HS2:=hid (B5.cell 2);have HBF:=hid (Zcc HB2 HB6.out);have hww:w.heap.size<w5.heap.size:=by have h1:=HZ2.out.lt;have h2:=HB5.out.size;omega
              clear B5;go_wp2_with fail;refine bodyPost_ret (v:= .tuple #[.agg #[.int .i64 Zam.k,.int .i64 Zam.n,.slice A6 Zam.l.length c6],.int .i64 0]) (by simp[results,results27,go_sem,HS0.out,HS1.out,HS2.out]) rfl ?_;exact Zbh HBF.out Zbn HN6.out hww
theorem Z7c:elB Jj 0 0=true:=by kernel_rfl
theorem Zt2 (A:Option Addr)(cap lo hi:Nat)(w:World)(hc:3≤cap)(hn:Zr w lo hi A Jj)(hhi:hi≤w.heap.size)(hS:Zi w):
  Calls prog 16 #[.slice A 3 cap,.int .i64 0,.int .i64 0] w (Zn (Zam,0) w):=by
 obtain⟨X,hX⟩:∃X,w.alloc (.cells #[.int .i64 0,.int .i64 0,.slice none 0 0] 27)=X:=⟨_,rfl⟩;have HBX:=hid (show Below w.heap.size w X from by rw[←hX];exact(Qa _ _).alloc Zbn _);have HK2:=hid (show Bk X w.heap.size 27 #[.int .i64 0,.int .i64 0,.slice none 0 0]from by rw[←hX];exact Qg _ _ _);have CO:=hid ((Zl6 Jj A cap lo hi X (by decide) hc (hn.kept HBX.out hhi) (by have:=HBX.out.size;omega) (hS.kept HBX.out)).mono fun _ _ h=>Zcj.yes Zja h);rw[show Jj.length=3 from rfl]at CO;have HR:=hid (fun(g:Nat)(B:Option Addr)(V:World)(hg:X.heap.size≤g)(hk:Bk V g 57 #[.slice A 3 cap,.slice B 3 3])(hc2:Zbi V 0 g B (Zct Jj)) (hb:Below X.heap.size X V)=>(show J8 V V.heap.size g Jj A B cap 3 from Zo7 hc (hn.kept HBX.out hhi) (by have:=HBX.out.size;omega) Zja hg hk hc2 hb));have CE:=hid (fun(g:Nat)(B:Option Addr)(V:World)(hr:J8 V V.heap.size g Jj A B cap 3)=>Zyn Jj A B cap 3 V.heap.size g 0 0 V hr);rw[Z7c]at CE;have CW:=hid (fun(g:Nat)(B:Option Addr)(V:World)(hr:J8 V V.heap.size g Jj A B cap 3)(hb:Below X.heap.size X V)=>Zsh A B cap 3 V.heap.size g V hr (hS.kept (Zcc HBX hb)));unfold Zn Zc at CW;simp only at CW;clear hn hS hhi;go_enter func16,ntmps16;go_wp2_with fail;refine CO.out.mono ?_;rintro e w1 ⟨g,B,rfl,hg,hk,hc2,hb⟩;have HRR:=hid (HR.out g B w1 hg hk hc2 hb);have HB1:=hid hb;have HK3:=hid (HK2.out.below hb HK2.out.lt);clear hb hg hk hc2 hX;go_wp2_with fail;refine(CE.out _ _ _ HRR.out).mono ?_;rintro e w1' ⟨rfl,rfl⟩;go_wp2_with fail;refine(CW.out _ _ _ HRR.out HB1.out).mono ?_;rintro e w2 ⟨F2,c2,rfl,hu,hb2⟩;have HB2:=hid (HBX.out.trans ((Zcc HB1 hb2).mono HBX.out.size));have HU:=hid hu;have HK4:=hid (HK3.out.below hb2 HK3.out.lt);have HLT:=hid HK3.out.lt;have B3:=((HK4.out.at_ 0 (.int .i64 Zam.k)).at_ 1 (.int .i64 Zam.n)).at_ 2 (.slice F2 Zam.l.length c2);have HS0:=hid (B3.cell 0);have HS1:=hid (B3.cell 1);have HS2:=hid (B3.cell 2);have hfz:∀q,w2.frozen? ⟨w.heap.size,q,none⟩=false:=fun q=>HK4.out.cold q;have z0:w2.cell? ⟨w.heap.size,0,none⟩=some (.int .i64 0):=HK4.out.cell 0;have z1:w2.cell? ⟨w.heap.size,1,none⟩=some (.int .i64 0):=HK4.out.cell 1;have z2:w2.cell? ⟨w.heap.size,2,none⟩=some (.slice none 0 0):=HK4.out.cell 2;clear B3 hb2 hu;go_wp2_with fail;refine bodyPost_ret (v:= .tuple #[.agg #[.int .i64 Zam.k,.int .i64 Zam.n,.slice F2 Zam.l.length c2],.int .i64 0]) (by simp[results,results16,go_sem,HS0.out,HS1.out,HS2.out]) rfl ?_;exact Zbh HB2.out Zbn HU.out HLT.out
theorem Zzg (w:World):Calls prog 15 #[] w fun e w'=>∃A c,e= .returned (.slice A 3 c)∧Zr w' 0 w'.heap.size A Jj∧3≤c∧Below w.heap.size w w':=by
 have HF:=hid (show ∀(V:World),V=((((w.alloc (.cells #[.int .i64 6,.int .i64 0,.slice none 0 0] 27)).alloc (.cells #[.int .i64 1,.int .i64 2] 3)).alloc (.cells #[.int .i64 6,.int .i64 0,.slice none 0 0,.int .i64 6,.int .i64 0,.slice none 0 0] 27)).alloc (.cells #[.int .i64 1,.string ⟨#[78,97,116]⟩,.int .i64 2,.int .i64 0,.slice none 0 0,.int .i64 0,.int .i64 0,.slice none 0 0,.int .i64 0,.int .i64 0,.int .i64 0,.int .i64 0,.int .i64 0,.slice (some ⟨w.heap.size+1,0,none⟩) 2 2,.slice none 0 0,.int .i64 2,.string ⟨#[122,101,114,111]⟩,.int .i64 6,.int .i64 0,.slice none 0 0,.int .i64 0,.int .i64 0,.slice none 0 0,.int .i64 0,.int .i64 0,.int .i64 0,.int .i64 0,.int .i64 0,.slice none 0 0,.slice none 0 0,.int .i64 2,.string ⟨#[115,117,99]⟩,.int .i64 3,.int .i64 0,.slice (some ⟨w.heap.size+1+1,0,none⟩) 2 2,.int .i64 0,.int .i64 0,.slice none 0 0,.int .i64 0,.int .i64 1,.int .i64 0,.int .i64 0,.int .i64 0,.slice none 0 0,.slice none 0 0] 36))→
   Zr V 0 V.heap.size (some ⟨w.heap.size+1+1+1,0,none⟩) Jj∧Below w.heap.size w V from by
  rintro V rfl;refine⟨Z7b (g1:=w.heap.size+1) (g2:=w.heap.size+1+1) (((Qf _ _ _ (by simp)).alloc _).alloc _) ((Qf _ _ _ (by simp)).alloc _) (Qf _ _ _ (by simp)), ?_⟩;exact((((Qa _ _).alloc Zbn _).alloc (by simp<;>omega) _).alloc (by simp<;>omega) _).alloc (by simp<;>omega) _)
 go_enter func15,ntmps15;go_wp2_with fail;go_ret;exact⟨_,3,rfl,(HF.out _ rfl).1,Qk _,(HF.out _ rfl).2⟩
theorem Zzh:Zc6 Jj 0=4:=by
 unfold Zc6;rw[Zjh Zja (by kernel_rfl),if_pos rfl];rfl
theorem Z2b:Zhp Jj 0 0=0:=Zjh Zja (by kernel_rfl)
theorem Zd5 (w:World)(hS:Zi w):Calls prog 5 #[] w fun e w'=>e= .returned (.bool true)∧Below w.heap.size w w':=by
 have HSS:=hid (fun V (hV:Below w.heap.size w V)=>hS.kept hV);have CN:=hid (fun(V:World)=>Zzg V);have CA:=hid (fun(A:Option Addr)(c:Nat)(V:World)(hV:Below w.heap.size w V)(hc:3≤c)(hn:Zr V 0 V.heap.size A Jj)=>(show Calls prog 7 #[.slice A 3 c,.int .i64 0] V (Zgc 4 0 V)from by
  have:=Zfn Jj A c 0 V.heap.size 0 V (by decide) hc hn Zbn (HSS.out V hV);rw[Zzh,Z2b]at this;exact this))
 have CT:=hid (fun(A:Option Addr)(c:Nat)(V:World)(hV:Below w.heap.size w V)(hc:3≤c)(hn:Zr V 0 V.heap.size A Jj)=>Zt2 A c 0 V.heap.size V hc hn Zbn (HSS.out V hV));unfold Zgc at CA;unfold Zn Zc at CT;simp only at CT;rw[Z15]at CT;have HB0:=hid (Qa w.heap.size w);clear hS;go_enter func5,ntmps5;go_wp2_with fail;refine(CN.out _).mono ?_;rintro e w1 ⟨A1,c1,rfl,hn1,hc1,hb1⟩;have HN1:=hid hn1;have HB1:=hid hb1;clear hn1 hb1;go_wp2_with fail;refine(CA.out A1 c1 _ HB1.out hc1 HN1.out).mono ?_;rintro e w2 ⟨rfl,hb2⟩;have HB2:=hid (Zcc HB1 hb2);clear hb2;go_wp2_with fail;refine(CN.out _).mono ?_;rintro e w3 ⟨A3,c3,rfl,hn3,hc3,hb3⟩;have HN3:=hid hn3;have HB3:=hid (Zcc HB2 hb3);clear hn3 hb3;go_wp2_with fail;refine(CT.out A3 c3 _ HB3.out hc3 HN3.out).mono ?_;rintro e w4 ⟨F4,c4,rfl, -,hb4⟩;have HB4:=hid (Zcc HB3 hb4);clear hb4;go_wp2_with fail;go_ret;exact⟨rfl,HB4.out.alloc HB4.out.size _⟩
