import Derived.Test.YtinlmmaokphhbaaGreatDoorM8
import Derived.Deep.RegionLaw
import Derived.Deep.RegionWith
import Derived.Deep.CutRange
import Derived.Deep.RegionHeld3
namespace Go.Proofs.YtinlmmaokphhbaaGreatDoor
set_option maxHeartbeats 4000000
set_option maxRecDepth 100000
open Go.RowKit
set_option linter.unusedVariables false
open Lib(hid)
open Go.Proofs.Tryz
open Go.RowKit.Below renaming refl→Qa
open Go.World renaming setCell→Qb
open Go renaming bodyPost_ret→Qc,results→Qd
open _root_.List renaming getElem_mem→Qe
open Bk renaming last→Qf,new→Qg
theorem Zgr{n:Nat}:n≤n:=Nat.le_refl n
def Z0v (p:TM×Int)(r:Int)(g:Nat)(w:World)(e:Ending)(w':World):Prop:=
 ∃A cap,e= .returned (.tuple #[Zc p.1 A cap,.int .i64 (if r - (Jv p.1.size:Int)<0 then 2 else p.2)])∧Za w' w.heap.size w'.heap.size p.1 A cap∧Z4 g w.heap.size w w'∧Bk w' g 3 #[.int .i64 (r - (Jv p.1.size:Int))]
theorem Zvj {x:TM}{c d r s:Int}{g:Nat}{w w':World}{A:Option Addr}{cap:Nat}(hs:(Jv x.size:Int)=s)(hd:d=if r - s<0 then 2 else c)(hx:Za w' w.heap.size w'.heap.size x A cap)(hn:Z4 g w.heap.size w w')(hb:Bk w' g 3 #[.int .i64 (r - s)]):
  Z0v (x,c) r g w (.returned (.tuple #[.agg #[.int .i64 x.k,.int .i64 x.n,.slice A x.l.length cap],.int .i64 d])) w':=by
 subst hd;subst hs;exact⟨A,cap,rfl,hx,hn,hb⟩
theorem Z07 (a0 gb g:Nat)(p:TM×Int)(k n b r:Int)(w:World)(h0:w.cell? ⟨gb,0,none⟩=some (.func (.func 159) #[] #[.pointer (some ⟨a0,0,none⟩)]))(hr:Bk w g 3 #[.int .i64 r])(hr0:0≤r∧r≤8192)(hgb:gb≠g)
    (HC0:∀V,Below w.heap.size w V→Calls prog 159 #[.agg #[.int .i64 k,.int .i64 n,.slice none 0 0],.int .i64 b,.pointer (some ⟨a0,0,none⟩)] V (Zn p V)):
    Calls prog 158 #[.agg #[.int .i64 k,.int .i64 n,.slice none 0 0],.int .i64 b,.pointer (some ⟨gb,0,none⟩),.pointer (some ⟨g,0,none⟩)] w (Z0v p r g w):=by
  have hltb:gb<w.heap.size:=World.block_lt_of_cell? w _ h0;have hltg:g<w.heap.size:=hr.lt;have HC:=hid HC0;have HR:=hid hr;obtain⟨x,c⟩:=p;obtain⟨s,hs⟩:∃s:Int,(Jv x.size:Int)=s:=⟨_,rfl⟩;have hsb:0≤s∧s≤8193:=by have:=Z5w x.size;omega
  have hw1:IntKind.i64.wrap (r - s)=r - s:=IntWalk.i64_in _ (by omega);have HSZ:=hid (fun(lo hi:Nat)(A:Option Addr)(cap:Nat)(V:World)(h:Za V lo hi x A cap)(hh:hi≤V.heap.size)=>Zrw x lo hi A cap V h hh);rw[hs]at HSZ;have HS:=hid hs;have HW2:=hid (fun o1 o2=>((Qa w.heap.size w).alloc Zgr o1).alloc (by simp) o2);have HBX:=hid (fun V (hV:Below ((w.alloc (.cells #[.int .i64 k,.int .i64 n,.slice none 0 0] 27)).alloc (.cells #[.int .i64 0,.int .i64 0,.slice none 0 0] 27)).heap.size ((w.alloc (.cells #[.int .i64 k,.int .i64 n,.slice none 0 0] 27)).alloc (.cells #[.int .i64 0,.int .i64 0,.slice none 0 0] 27)) V)=>(show Bk V w.heap.size 27 #[.int .i64 k,.int .i64 n,.slice none 0 0]∧Bk V (w.heap.size+1) 27 #[.int .i64 0,.int .i64 0,.slice none 0 0]∧Bk V g 3 #[.int .i64 r]from⟨((Qg w 27 _).alloc (.cells #[.int .i64 0,.int .i64 0,.slice none 0 0] 27)).below hV (by simp<;>omega),(Qf (w.alloc (.cells #[.int .i64 k,.int .i64 n,.slice none 0 0] 27)) 27 #[.int .i64 0,.int .i64 0,.slice none 0 0] (by simp)).below hV (by simp),((HR.out.alloc (.cells #[.int .i64 k,.int .i64 n,.slice none 0 0] 27)).alloc (.cells #[.int .i64 0,.int .i64 0,.slice none 0 0] 27)).below hV (by simp<;>omega)⟩));clear HC0 hr hr0 hsb hs;go_enter func158,ntmps158;go_wp2_with fail;refine(HC.out _ (HW2.out _ _)).mono ?_;rintro e w1 ⟨A',cap',rfl,hx1,hb1⟩;rw[Zc];have hz1:=hb1.size;simp at hz1;obtain⟨K1,K2,K3⟩:=HBX.out _ hb1;have HB1:=hid ((HW2.out _ _).trans (hb1.mono (by simp<;>omega)));have B1:=((K1.at_ 0 (.int .i64 x.k)).at_ 1 (.int .i64 x.n)).at_ 2 (.slice A' x.l.length cap');have B2:=((K2.far (a:=⟨w.heap.size,0,none⟩) (by simp) (.int .i64 x.k)).far (a:=⟨w.heap.size,1,none⟩) (by simp) (.int .i64 x.n)).far (a:=⟨w.heap.size,2,none⟩) (by simp) (.slice A' x.l.length cap');have B3:=((K3.far (a:=⟨w.heap.size,0,none⟩) (by show g≠w.heap.size;omega) (.int .i64 x.k)).far (a:=⟨w.heap.size,1,none⟩) (by show g≠w.heap.size;omega) (.int .i64 x.n)).far (a:=⟨w.heap.size,2,none⟩) (by show g≠w.heap.size;omega) (.slice A' x.l.length cap');have HX1:=hid ((hx1.far3 (g:=w.heap.size) (by simp<;>omega) (.int .i64 x.k) (.int .i64 x.n) (.slice A' x.l.length cap')).wide (lo':=w.heap.size+2) (hi':=w1.heap.size) (by simp) Zgr);have HN1:=hid (((HB1.out.setCell (p:=⟨w.heap.size,0,none⟩) Zgr (.int .i64 x.k)).setCell (p:=⟨w.heap.size,1,none⟩) Zgr (.int .i64 x.n)).setCell (p:=⟨w.heap.size,2,none⟩) Zgr (.slice A' x.l.length cap'));have c0:w1.cell? ⟨w.heap.size,0,none⟩=some (.int .i64 k):=K1.cell 0;have c1:w1.cell? ⟨w.heap.size,1,none⟩=some (.int .i64 n):=K1.cell 1;have c2:w1.cell? ⟨w.heap.size,2,none⟩=some (.slice none 0 0):=K1.cell 2;have hfz0:∀o,w1.frozen? ⟨w.heap.size,o,none⟩=false:=fun o=>K1.cold o;obtain⟨X,hX⟩:∃X,((w1.setCell ⟨w.heap.size,0,none⟩ (.int .i64 x.k)).setCell ⟨w.heap.size,1,none⟩ (.int .i64 x.n)).setCell ⟨w.heap.size,2,none⟩ (.slice A' x.l.length cap')=X:=⟨_,rfl⟩;have hXz:X.heap.size=w1.heap.size:=by rw[←hX];simp[Qb]
  rw[hX]at B1 B2 B3 HX1 HN1;have HB1':=hid B1;have HB2':=hid B2;have HB3':=hid B3;clear K1 K2 K3 B1 B2 B3 hb1 hx1;have HK:=hid (fun V (hV:Below X.heap.size X V)=>(show(V.cell? ⟨g,0,none⟩=some (.int .i64 r))∧(∀o,V.frozen? ⟨g,o,none⟩=false)∧V.cell? ⟨w.heap.size,0,none⟩=some (.int .i64 x.k)∧V.cell? ⟨w.heap.size,1,none⟩=some (.int .i64 x.n)∧V.cell? ⟨w.heap.size,2,none⟩=some (.slice A' x.l.length cap')from
    ⟨(HB3'.out.below hV (by omega)).cell 0,fun o=>(HB3'.out.below hV (by omega)).cold o,(HB1'.out.below hV (by omega)).cell 0,(HB1'.out.below hV (by omega)).cell 1,(HB1'.out.below hV (by omega)).cell 2⟩))
  have hbk:=hid ((Qa X.heap.size X).drew);have HSX:=hid (fun V (hV:Below X.heap.size X V)=>HSZ.out (w.heap.size+2) w1.heap.size A' cap' V (HX1.out.kept hV (by omega)) (by have:=hV.size;omega));obtain⟨y0,hfz,y1,y2,y3⟩:=HK.out _ hbk.out;go_upto_region 2 with fail
  subst hX;go_region_law
    (first
     | (go_simp;go_at_call 130;refine(HSX.out _ hbk.out).mono ?_;rintro e w3 ⟨rfl,hbn⟩;have hbk:=hid (hbk.out.trans (hbn.mono hbk.out.size));clear hbn y0 hfz y1 y2 y3;obtain⟨y0,hfz,y1,y2,y3⟩:=HK.out _ hbk.out))
  all_goals
    have hz3:=hbk.out.size;have K2:=HB2'.out.below hbk.out (by omega);have K3:=HB3'.out.below hbk.out (by omega);have HX3:=hid (((HX1.out.kept hbk.out (by omega)).setFar (a:=⟨g,0,none⟩) (by show g<_;omega) (.int .i64 (r - s))).far3 (g:=w.heap.size+1) (by omega) (.int .i64 x.k) (.int .i64 x.n) (.slice A' x.l.length cap'));have HN3:=hid (((((Z4.of (g:=g) (HN1.out.trans (hbk.out.mono (by omega)))).own 0 (.int .i64 (r - s))).setCell (p:=⟨w.heap.size+1,0,none⟩) (by show w.heap.size≤w.heap.size+1;omega) (.int .i64 x.k)).setCell (p:=⟨w.heap.size+1,1,none⟩) (by show w.heap.size≤w.heap.size+1;omega) (.int .i64 x.n)).setCell (p:=⟨w.heap.size+1,2,none⟩) (by show w.heap.size≤w.heap.size+1;omega) (.slice A' x.l.length cap'));have hfzR:∀o,w3.frozen? ⟨w.heap.size+1,o,none⟩=false:=fun o=>K2.cold o;have d0:w3.cell? ⟨w.heap.size+1,0,none⟩=some (.int .i64 0):=K2.cell 0;have d1:w3.cell? ⟨w.heap.size+1,1,none⟩=some (.int .i64 0):=K2.cell 1;have d2:w3.cell? ⟨w.heap.size+1,2,none⟩=some (.slice none 0 0):=K2.cell 2;have E5:=(((K2.far (a:=⟨g,0,none⟩) (by show w.heap.size+1≠g;omega) (.int .i64 (r - s))).at_ 0 (.int .i64 x.k)).at_ 1 (.int .i64 x.n)).at_ 2 (.slice A' x.l.length cap');have HS0:=hid (E5.cell 0);have HS1:=hid (E5.cell 1);have HS2:=hid (E5.cell 2);have HBK:=hid ((((K3.at_ 0 (.int .i64 (r - s))).far (a:=⟨w.heap.size+1,0,none⟩) (by show g≠w.heap.size+1;omega) (.int .i64 x.k)).far (a:=⟨w.heap.size+1,1,none⟩) (by show g≠w.heap.size+1;omega) (.int .i64 x.n)).far (a:=⟨w.heap.size+1,2,none⟩) (by show g≠w.heap.size+1;omega) (.slice A' x.l.length cap'));have HZ3:Hid (w1.heap.size≤w3.heap.size):=hid (by omega);clear K2 K3 E5 HK HSX HBX HC HSZ;by_cases hneg:r - s<0
    · have HG:=hid (show(2:Int)=if r - s<0 then 2 else c from(if_pos hneg).symm);go_wp2_with fail;refine Qc (v:= .tuple #[.agg #[.int .i64 x.k,.int .i64 x.n,.slice A' x.l.length cap'],.int .i64 2]) (by simp[Qd,results158,go_sem,HS0.out,HS1.out,HS2.out]) rfl ?_;exact Zvj HS.out HG.out (HX3.out.wide (by omega) (by have:=HZ3.out;simp[Qb];omega)) HN3.out HBK.out
    · have HG:=hid (show c=if r - s<0 then 2 else c from(if_neg hneg).symm);go_wp2_with fail;refine Qc (v:= .tuple #[.agg #[.int .i64 x.k,.int .i64 x.n,.slice A' x.l.length cap'],.int .i64 c]) (by simp[Qd,results158,go_sem,HS0.out,HS1.out,HS2.out]) rfl ?_;exact Zvj HS.out HG.out (HX3.out.wide (by omega) (by have:=HZ3.out;simp[Qb];omega)) HN3.out HBK.out
def Zsr (ga g:Nat)(G:Bec)(w0:World):Prop:=∀(k n b r:Int) (V:World),Z4 g w0.heap.size w0 V→Bk V g 3 #[.int .i64 r]→Zn7 k n b→0≤r→r≤8192→
 Calls prog 158 #[.agg #[.int .i64 k,.int .i64 n,.slice none 0 0],.int .i64 b,.pointer (some ⟨ga,0,none⟩),.pointer (some ⟨g,0,none⟩)] V (Z0v (G k n b) r g V)
def Zgs (G:Bec):TM→Int→Int→TM×Int
 | .node k n l,b,r=>if isV k n b then((G k n b).1,if r - (Jv (G k n b).1.size:Int)<0 then 2 else(G k n b).2)else
  match Za7 G k 0 l b r with
  | .error c=>(.node 0 0 [],c)
  | .ok (us,_)=>(.node k n us,0)
theorem Zkf (G:Bec)(k n:Int)(l:List TM)(b r:Int):Zgs G (.node k n l) b r=if isV k n b then((G k n b).1,if r - (Jv (G k n b).1.size:Int)<0 then 2 else(G k n b).2)else
  match Za7 G k 0 l b r with
  | .error c=>(.node 0 0 [],c)
  | .ok (us,_)=>(.node k n us,0):=rfl
theorem Z10 {p:TM×Int}{r c:Int}(h:Zhb p r= .error c):c≠0:=by
 unfold Zhb at h;split at h
 ·injection h with h;omega
 ·split at h
  ·cases h
  ·injection h with h;subst h;assumption
theorem Zw3 {p:TM×Int}{r:Int}{u:TM}{q:Int}(h:Zhb p r= .ok (u,q))(hr:0≤r):0≤q∧q≤r:=by
 unfold Zhb at h;split at h
 ·cases h
 ·split at h
  ·injection h with h;injection h with h1 h2;subst h2;omega
  ·cases h
theorem Zt5 (G:Bec):∀(t:TM) (b r:Int),0≤r→(∀u q,Zcz G t b r= .ok (u,q)→0≤q∧q≤r)∧(∀c,Zcz G t b r= .error c→c≠0):=by
 intro t;induction t using TM.ind with
 | h k n l ih=>
  intro b r hr;have hL:∀(m:List TM),(∀u∈m,u∈l)→∀(i:Nat) (r:Int),0≤r→(∀us q,Za7 G k i m b r= .ok (us,q)→0≤q∧q≤r)∧(∀c,Za7 G k i m b r= .error c→c≠0):=by
   intro m;induction m with
   | nil=>
    intro _ i r h0;rw[Zj2];refine⟨fun us q h=> ?_,fun c h=>(nomatch h)⟩;injection h with h;injection h with h1 h2;omega
   | cons u m ihm=>
    intro hm i r h0;obtain⟨a1,a2⟩:=ih u (hm u List.mem_cons_self) (b+bnd k i) r h0;rw[Zin];cases e:Zcz G u (b+bnd k i) r with
    | error c=>
     refine⟨fun us q h=>(nomatch h),fun d h=> ?_⟩;injection h with h;subst h;exact a2 _ e
    | ok p=>
     obtain⟨v,q⟩:=p;obtain⟨q0,q1⟩:=a1 v q e;obtain⟨b1,b2⟩:=ihm (fun v hv=>hm v (List.mem_cons_of_mem _ hv)) (i+1) q q0;simp only[];cases e2:Za7 G k (i+1) m b q with
     | error c=>
      refine⟨fun us q h=>(nomatch h),fun d h=> ?_⟩;injection h with h;subst h;exact b2 _ e2
     | ok p=>
      obtain⟨vs,s⟩:=p;have:=b1 vs s e2;refine⟨fun us q h=> ?_,fun d h=>(nomatch h)⟩;injection h with h;injection h with h1 h2;omega
  rw[Zg3];by_cases hv:isV k n b
  ·rw[if_pos hv];exact⟨fun u q h=>Zw3 h hr,fun c h=>Z10 h⟩
  ·rw[if_neg hv];obtain⟨b1,b2⟩:=hL l (fun _ h=>h) 0 r hr;cases e:Za7 G k 0 l b r with
   | error c=>
    refine⟨fun us q h=>(nomatch h),fun d h=> ?_⟩;injection h with h;subst h;exact b2 _ e
   | ok p=>
    obtain⟨vs,s⟩:=p;have:=b1 vs s e;refine⟨fun us q h=> ?_,fun d h=>(nomatch h)⟩;injection h with h;injection h with h1 h2;omega
theorem Ztk {G:Bec}{t:TM}{b r:Int}{u:TM}{q:Int}(h:Zcz G t b r= .ok (u,q)):Zgs G t b r=(u,0):=by
 obtain⟨k,n,l⟩:=t;rw[Zg3]at h;rw[Zkf];split at h
 ·rename_i hv
  rw[if_pos hv];unfold Zhb at h;split at h
  ·cases h
  ·rename_i hr
   split at h
   ·rename_i h0
    injection h with h;injection h with h1 h2;rw[if_neg hr,h1,h0]
   ·cases h
 ·rename_i hv
  rw[if_neg hv];cases e:Za7 G k 0 l b r with
  | error c=>rw[e]at h;cases h
  | ok p=>
   obtain⟨us,s⟩:=p;rw[e]at h;injection h with h;injection h with h1 h2;rw[←h1]
theorem Zqw {G:Bec}{t:TM}{b r c:Int}(h:Zcz G t b r= .error c):(Zgs G t b r).2=c:=by
 obtain⟨k,n,l⟩:=t;rw[Zg3]at h;rw[Zkf];split at h
 ·rename_i hv
  rw[if_pos hv];unfold Zhb at h;split at h
  ·rename_i hr
   injection h with h;show(if _ then(2:Int)else _)=c
   rw[if_pos hr,h]
  ·rename_i hr
   split at h
   ·cases h
   ·injection h with h;show(if _ then(2:Int)else _)=c
    rw[if_neg hr,h]
 ·rename_i hv
  rw[if_neg hv];cases e:Za7 G k 0 l b r with
  | error d=>rw[e]at h;injection h with h
  | ok p=>
   obtain⟨us,s⟩:=p;rw[e]at h;cases h
theorem Zy7 (p:TM×Int)(r:Int)(u:TM)(s:Int)(h:Zhb p r= .ok (u,s)):s=r - (Jv p.1.size:Int):=by
 unfold Zhb at h;split at h
 ·cases h
 ·split at h
  ·injection h with h;injection h with h1 h2;exact h2.symm
  ·cases h
def Zh8 (res:Except Int (TM×Int))(q:Int):Prop:=∀u s,res= .ok (u,s)→s=q
def Zmo (G:Bec)(t:TM)(b r:Int)(g:Nat)(w:World)(e:Ending)(w':World):Prop:=
 ∃A cap q,e= .returned (.tuple #[Zc (Zgs G t b r).1 A cap,.int .i64 (Zgs G t b r).2])∧Za w' w.heap.size w'.heap.size (Zgs G t b r).1 A cap∧Z4 g w.heap.size w w'∧Bk w' g 3 #[.int .i64 q]∧Zh8 (Zcz G t b r) q
def Z3s (G:Bec)(g:Nat)(r:Int)(w:World)(k n b:Int)(l:List TM)(A:Option Addr)(cap:Nat)(nv iv:Value)(wr:World):Prop:=
 ∃(i:Nat) (ps:List (TM×Option Addr×Nat)) (P:Nat→Prop) (q:Int),i≤l.length∧iv= .int .i64 i∧Z4 g w.heap.size w wr∧
  Bk wr w.heap.size 27 #[.int .i64 k,.int .i64 n,.slice A l.length cap]∧Bk wr (w.heap.size+1) 27 #[.int .i64 0,.int .i64 0,.slice none 0 0]∧
  Zk wr (w.heap.size+2) 27 nv ps P∧(∀b,P b→w.heap.size+2≤b)∧ps.length=i∧Bk wr g 3 #[.int .i64 q]∧(0≤q∧q≤8192)∧Za7 G k 0 (l.take i) b r= .ok (ps.map (·.1),q)
theorem Znv {G:Bec}{t x:TM}{b r c q:Int}{g h lo:Nat}{w w1:World}{A:Option Addr}{cap:Nat}(ho:Zgs G t b r=(x,c))(hq:Zh8 (Zcz G t b r) q)(hn:Z4 g w.heap.size w w1)(hh:w.heap.size≤h)(hx:Za w1 lo w1.heap.size x A cap)(hlo:h<lo)(hb:Bk w1 g 3 #[.int .i64 q])(hgh:g<h):
  Zmo G t b r g w (.returned (.tuple #[.agg #[.int .i64 x.k,.int .i64 x.n,.slice A x.l.length cap],.int .i64 c])) (((w1.setCell ⟨h,0,none⟩ (.int .i64 x.k)).setCell ⟨h,1,none⟩ (.int .i64 x.n)).setCell ⟨h,2,none⟩ (.slice A x.l.length cap)):=by
 refine⟨A,cap,q,by rw[ho];rfl, ?_,((hn.setCell (p:=⟨h,0,none⟩) hh _).setCell (p:=⟨h,1,none⟩) hh _).setCell (p:=⟨h,2,none⟩) hh _,((hb.far (a:=⟨h,0,none⟩) (by show g≠h;omega) _).far (a:=⟨h,1,none⟩) (by show g≠h;omega) _).far (a:=⟨h,2,none⟩) (by show g≠h;omega) _,hq⟩;rw[ho];exact(hx.far3 hlo _ _ _).wide (by omega) (by simp[Qb])
theorem Z0t {G:Bec}{t:TM}{b r c q:Int}{g h:Nat}{w w1:World}(ho:Zgs G t b r=(.node 0 0 [],c))(hq:Zh8 (Zcz G t b r) q)(hn:Z4 g w.heap.size w w1)(hh:w.heap.size≤h)(hb:Bk w1 g 3 #[.int .i64 q])(hgh:g<h):
  Zmo G t b r g w (.returned (.tuple #[.agg #[.int .i64 0,.int .i64 0,.slice none 0 0],.int .i64 c])) (((w1.setCell ⟨h,0,none⟩ (.int .i64 0)).setCell ⟨h,1,none⟩ (.int .i64 0)).setCell ⟨h,2,none⟩ (.slice none 0 0)):=
 Znv (x:= .node 0 0 []) (lo:=h+1) ho hq hn hh (Zas _ _ 0 0) (by omega) hb hgh
theorem Zu4 (ga g:Nat)(G:Bec)(w0:World)(hgw:g<w0.heap.size)(HV0:Zsr ga g G w0):
    ∀(t:TM) (b r:Int) (lo hi:Nat) (A:Option Addr) (cap:Nat) (w:World),Za w lo hi t A cap→hi≤g→Z4 g w0.heap.size w0 w→Bk w g 3 #[.int .i64 r]→0≤r→r≤8192→Zg t=true→t.size≤8192→0≤b→b+t.depth≤200→
    Calls prog 157 #[Zc t A cap,.int .i64 b,.func (.func 158) #[] #[.pointer (some ⟨ga,0,none⟩),.pointer (some ⟨g,0,none⟩)]] w (Zmo G t b r g w):=by
  have HV:=hid HV0;clear HV0;intro t;induction t using TM.ind with
  | h k n l ih=>
    intro b r lo hi A cap w h hhi hw0 hbr hr0 hr1 hg hsz hb0 hb1;obtain⟨i0,hi0,hz0,hz1,hz2⟩:=info_parts Zc9;obtain⟨hl,hm⟩:=h.bounds;obtain⟨g1,g2,g3,g4,g5,g6,g7⟩:=Zdv hg;have hglt:g<w.heap.size:=hbr.lt;rw[J6]at hsz;rw[J0]at hb1;have hll:=Zem l;have hl9:l.length≤8192:=by omega
    have hb2:b≤199:=by omega
    have HW0:=hid (fun(V:World)(hV:Z4 g w.heap.size w V)=>hw0.trans (hV.mono hw0.size));have HN:=hid h.sub;have HBR:=hid hbr;have HHI:=hid hhi;have HR:=hid (And.intro hr0 hr1);by_cases hvar:isV k n b
    · obtain rfl:l=[]:=by
        have h0:Zcq k=0:=by unfold Zcq;rcases hvar with h|h<;>(rw[if_neg (by omega),if_neg (by omega)])
        rw[h0]at g3;exact List.length_eq_zero_iff.1 g3
      have hvo:Zn7 k n b:=⟨hvar,g4,g5,hb0,by omega⟩;have HC:=hid (fun(V:World)(hV:Z4 g w.heap.size w V)(hB:Bk V g 3 #[.int .i64 r])=>HV.out k n b r V (HW0.out V hV) hB hvo hr0 hr1);have HW1:=hid (fun o1 o2=>Z4.of (g:=g) (((Qa w.heap.size w).alloc Zgr o1).alloc (by simp) o2));obtain⟨p,hp⟩:∃p,G k n b=p:=⟨_,rfl⟩;have HO:=hid (show Zgs G (.node k n []) b r=(p.1,if r - (Jv p.1.size:Int)<0 then 2 else p.2)by rw[Zkf,if_pos hvar,hp]);have HRM:=hid (show Zh8 (Zcz G (.node k n []) b r) (r - (Jv p.1.size:Int))from fun u s h=>by rw[Zg3,if_pos hvar,hp]at h;exact Zy7 p r u s h);rw[hp]at HC;have HVAR:Hid (k=8∨((k==8)=false∧(k==1)=true∧decide (n≥b)=true)):=hid (by
        by_cases h8:k=8
        · exact .inl h8
        · rcases hvar with h|h
          · exact absurd h h8
          · exact .inr ⟨by simpa using h8,by simpa using h.1,decide_eq_true h.2⟩)
      unfold maxLen at hm;clear ih h hvar hp g1 g2 g3 g4 g5 g6 g7 hg hsz hb1 hll hl9 HN hw0 hb2 hvo hbr hhi hr0 hr1 hb0;rw[Jk];go_enter func157,ntmps157;rcases HVAR.out with h8|⟨e1,e2,e3⟩
      rotate_left
      have e0:True:=trivial
      rotate_right
      have e1:(k==8)=true:=by rw[h8];rfl
      clear h8;all_goals
        go_wp2_with fail;refine(HC.out _ (HW1.out _ _) ((HBR.out.alloc (.cells #[.int .i64 k,.int .i64 n,.slice none 0 0] 27)).alloc (.cells #[.int .i64 0,.int .i64 0,.slice none 0 0] 27))).mono ?_;rintro e w1 ⟨A',cap',rfl,hn1,hb1,hr1⟩;have hz1:=hb1.size;simp at hz1;have BK:=(Qf (w.alloc (.cells #[.int .i64 k,.int .i64 n,.slice none 0 0] 27)) 27 #[.int .i64 0,.int .i64 0,.slice none 0 0] (g:=w.heap.size+1) (by simp)).near hb1 (by simp) (by omega);have HB1:=hid ((HW1.out _ _).trans (hb1.mono (by simp<;>omega)));obtain⟨x,hx⟩:∃x,p.1=x:=⟨_,rfl⟩;obtain⟨cc,hcc⟩:∃cc,(if r - (Jv p.1.size:Int)<0 then 2 else p.2)=cc:=⟨_,rfl⟩;rw[hcc]at HO⊢;rw[hx]at HO hn1⊢;have hfz:∀o,w1.frozen? ⟨w.heap.size+1,o,none⟩=false:=fun o=>BK.cold o;have d0:w1.cell? ⟨w.heap.size+1,0,none⟩=some (.int .i64 0):=BK.cell 0;have d1:w1.cell? ⟨w.heap.size+1,1,none⟩=some (.int .i64 0):=BK.cell 1;have d2:w1.cell? ⟨w.heap.size+1,2,none⟩=some (.slice none 0 0):=BK.cell 2;rw[Zc];have B5:=((BK.at_ 0 (.int .i64 x.k)).at_ 1 (.int .i64 x.n)).at_ 2 (.slice A' x.l.length cap');have HS0:=hid (B5.cell 0);have HS1:=hid (B5.cell 1);have HS2:=hid (B5.cell 2);simp at hn1;have HN1:=hid hn1;have HR1:=hid hr1;clear B5 BK hb1 hn1 hx hcc hr1;go_wp2_with fail;refine Qc (v:= .tuple #[.agg #[.int .i64 x.k,.int .i64 x.n,.slice A' x.l.length cap'],.int .i64 cc]) (by simp[Qd,results157,go_sem,HS0.out,HS1.out,HS2.out]) rfl ?_;exact Znv HO.out HRM.out HB1.out (by omega) HN1.out (by omega) HR1.out (by omega)
    · have IH:=hid ih;have HE:=hid (show Zgs G (.node k n l) b r=(match Za7 G k 0 l b r with| .error c=>(.node 0 0 [],c)| .ok (us,_)=>(.node k n us,0))by rw[Zkf,if_neg hvar]);have HEW:=hid (show Zcz G (.node k n l) b r=(match Za7 G k 0 l b r with| .error c=> .error c| .ok (us,q)=> .ok (.node k n us,q))by rw[Zg3,if_neg hvar];cases Za7 G k 0 l b r<;>rfl);have HFACT:Hid ((∀u∈l,Zg u=true)∧Ja l≤8192∧b+Jm l≤199):=hid ⟨g7,by omega,by omega⟩;have hlen2:l.length≤2:=by have:=Zl2 k;omega
      have HSKIP:Hid ((k==8)=false∧(((k==1)=true∧decide (n≥b)=false)∨(k==1)=false)):=hid ⟨by
        have: ¬ k=8:=fun h=>hvar (.inl h);simpa using this,by
        by_cases h1:k=1
        · exact .inl ⟨by rw[h1];rfl,decide_eq_false (fun h2=>hvar (.inr ⟨h1,h2⟩))⟩
        · exact .inr (by simpa using h1)⟩
      unfold maxLen at hm;clear ih h hvar g1 g2 g3 g4 g5 g6 g7 hg hsz hb1 hll hw0 hbr hr0 hr1;rw[Jk];go_enter func157,ntmps157;obtain⟨e0,hsk⟩:=HSKIP.out;rcases hsk with ⟨e1,e2⟩|e1
      all_goals
        go_wp2_with fail;refine((Zdw l.length hl9 _)).mono ?_;rintro e w1 ⟨v0,rfl,ho0,hbx⟩;obtain⟨a0,cc0,rfl⟩:=Zl ho0;have hz0':=hbx.size;simp at hz0';have hBK1:Bk w1 w.heap.size 27 #[.int .i64 k,.int .i64 n,.slice A l.length cap]:=((Qg w 27 _).alloc _).below hbx (by simp<;>omega);have hBK2:Bk w1 (w.heap.size+1) 27 #[.int .i64 0,.int .i64 0,.slice none 0 0]:=(Qf (w.alloc (.cells #[.int .i64 k,.int .i64 n,.slice A l.length cap] 27)) 27 #[.int .i64 0,.int .i64 0,.slice none 0 0] (by simp)).below hbx (by simp);have hBKR:Bk w1 g 3 #[.int .i64 r]:=((HBR.out.alloc (.cells #[.int .i64 k,.int .i64 n,.slice A l.length cap] 27)).alloc (.cells #[.int .i64 0,.int .i64 0,.slice none 0 0] 27)).below hbx (by simp<;>omega);have hB0:=(((Qa w.heap.size w).alloc Zgr (.cells #[.int .i64 k,.int .i64 n,.slice A l.length cap] 27)).alloc (by simp) (.cells #[.int .i64 0,.int .i64 0,.slice none 0 0] 27)).trans (hbx.mono (by simp<;>omega));have y0:w1.cell? ⟨w.heap.size,2,none⟩=some (.slice A l.length cap):=hBK1.cell 2;have hl0:w.heap.size<w1.heap.size:=by omega
        have HO0:=hid ho0;have HBK1:=hid hBK1;have HBK2:=hid hBK2;have HBKR:=hid hBKR;have HB0:=hid (Z4.of (g:=g) hB0);clear ho0 hBK1 hBK2 hBKR hB0 hbx;go_wp2_with fail;go_loopw [8,41] (Z3s G g r w k n b l A cap) (fun _ iv _=>l.length - (intOf iv).toNat)
        case atStart=>
          refine⟨0,[],fun _=>False,r,Nat.zero_le _,rfl,HB0.out,HBK1.out,HBK2.out,⟨?_,fun _ h=>h.elim,fun _ h=>by cases h⟩,fun _ h=>h.elim,rfl,HBKR.out,HR.out,by rw[List.take_zero,Zj2];rfl⟩;have h:=HO0.out;refine⟨h.1, ?_⟩;rcases h.2 with h1|⟨g,cp,cur,h1,h2,h3⟩
          · exact .inl h1
          · exact .inr ⟨g,cp,cur,h1,by simp at h2;omega,h3⟩
        case round=>
          obtain⟨i,ps,P,q,hi1,rfl,hB,b1,b2,hrow,hP,hps,hbq,hq,hpl⟩:=hrel;have hz:=hB.size;have hlt2:=b2.lt;obtain⟨a1,c1,rfl⟩:=Zl hrow.row;have HPS:=hid hps;have HB1:=hid b1;have HB2:=hid b2;have HROW:=hid hrow;have HPP:=hid hP;have HPL:=hid hpl;have HBQ:=hid hbq;have HQ:=hid hq;clear b1 b2 hrow hP hpl hps hbq hq;by_cases hil:i<l.length
          · obtain⟨bk,o,F,C,hA,hb1,hb2,hx,hnode⟩:=(HN.out i hil).near hB (by omega) hhi;subst hA;obtain⟨x0',x1',x2'⟩:=hx;have hi1':(i:Int)<(l.length:Int):=by omega
            have hb01:=Zmq k i;have hst:=Z0s G k b r hil HPL.out;have hdep:l[i].depth≤Jm l:=by
              have h1:=Zbl (l.take (i+1)) (l.drop (i+1));rw[List.take_append_drop,Zd6 hil]at h1;omega
            have hsm:l[i].size≤8192:=by have h1:=Zkj (Qe hil);have h2:=HFACT.out.2.1;omega
            have hih:=fun(V:World)(hV:Z4 g w.heap.size w V) h1 h2=>IH.out (l[i]'hil) (Qe hil) (b+bnd k i) q lo hi F C V h1 hhi (HW0.out V hV) h2 HQ.out.1 HQ.out.2 (HFACT.out.1 _ (Qe hil)) hsm (by omega) (by have:=HFACT.out.2.2;omega);obtain⟨bb,hbb⟩:∃bb,bnd k i=bb:=⟨_,rfl⟩;have CB:=hid (fun V=>Ztr k i V);rw[hbb]at hb01 hst hih CB;obtain⟨u,hu⟩:∃u,l[i]=u:=⟨_,rfl⟩;rw[hu]at hst hih hnode x0' x1' x2' hdep hsm;have hw1:IntKind.i64.wrap (b+bb)=b+bb:=IntWalk.i64_in _ (by omega);obtain⟨x,c,hxc⟩:∃x c,Zgs G u (b+bb) q=(x,c):=⟨_,_,rfl⟩;obtain⟨RES,hRES⟩:∃RES,Zcz G u (b+bb) q=RES:=⟨_,rfl⟩;have hroom:=Zt5 G u (b+bb) q HQ.out.1;rw[hRES]at hst hroom;have HOK:Hid (c=0→∀q',Zh8 RES q'→Za7 G k 0 (l.take (i+1)) b r= .ok (ps.map (·.1)++[x],q')∧0≤q'∧q'≤8192):=hid (fun h0 q' hq'=>by
              cases e:RES with
              | error d=>
                have h1:=Zqw (hRES.trans e);rw[hxc]at h1;exact absurd (h1.symm.trans h0) (hroom.2 d e)
              | ok y=>
                obtain⟨y,s⟩:=y;have h1:=Ztk (hRES.trans e);rw[hxc]at h1;injection h1 with h2 h3;have h4:=hq' y s e;have h5:=hroom.1 y s e;have h6:=HQ.out;rw[hst,e,h2,←h4];exact⟨rfl,by omega,by omega⟩)
            have HERR:Hid (c≠0→Zgs G (.node k n l) b r=(.node 0 0 [],c)∧∃d,Zcz G (.node k n l) b r= .error d):=hid (fun h0=>by
              cases e:RES with
              | error d=>
                have h1:=Zqw (hRES.trans e);rw[hxc]at h1;rw[e]at hst;have h3:=Z27 G k b r hst;rw[HE.out,HEW.out,h3];exact⟨by rw[←h1],d,rfl⟩
              | ok y=>
                obtain⟨y,s⟩:=y;have h1:=Ztk (hRES.trans e);rw[hxc]at h1;injection h1 with h2 h3;exact absurd h3 h0)
            have HNO:=hid hnode;have HIH:Hid (∀(V:World),Below (wr.alloc (.cells #[.int .i64 u.k,.int .i64 u.n,.slice F u.l.length C] 27)).heap.size (wr.alloc (.cells #[.int .i64 u.k,.int .i64 u.n,.slice F u.l.length C] 27)) V→Calls prog 157 #[.agg #[.int .i64 u.k,.int .i64 u.n,.slice F u.l.length C],.int .i64 (b+bb),.func (.func 158) #[] #[.pointer (some ⟨ga,0,none⟩),.pointer (some ⟨g,0,none⟩)]] V fun e w'=>
                ∃A' cap' q',e= .returned (.tuple #[.agg #[.int .i64 x.k,.int .i64 x.n,.slice A' x.l.length cap'],.int .i64 c])∧Za w' V.heap.size w'.heap.size x A' cap'∧Z4 g V.heap.size V w'∧Bk w' g 3 #[.int .i64 q']∧Zh8 RES q'):=hid (fun V hV=>by
              have hbb:=(hB.alloc hz (.cells #[.int .i64 u.k,.int .i64 u.n,.slice F u.l.length C] 27)).trans ((Z4.of (g:=g) hV).mono (by simp<;>omega));have h1:=hih V hbb (HNO.out.kept (((Qa wr.heap.size wr).alloc Zgr (.cells #[.int .i64 u.k,.int .i64 u.n,.slice F u.l.length C] 27)).trans (hV.mono (by simp))) (by omega)) ((HBQ.out.alloc (.cells #[.int .i64 u.k,.int .i64 u.n,.slice F u.l.length C] 27)).below hV (by simp<;>omega));unfold Zmo at h1;rw[hxc,hRES]at h1;exact h1)
            have BX1:=(HB1.out.alloc (.cells #[.int .i64 u.k,.int .i64 u.n,.slice F u.l.length C] 27));have HXB:=hid (show Z8 (wr.alloc (.cells #[.int .i64 u.k,.int .i64 u.n,.slice F u.l.length C] 27)) wr.heap.size u.k u.n (.slice F u.l.length C)from Z8.of (Qg wr 27 _));have HXT:=hid (show Z8 (wr.alloc (.cells #[.int .i64 u.k,.int .i64 u.n,.slice F u.l.length C] 27)) w.heap.size k n (.slice (some ⟨bk,o,none⟩) l.length cap)from Z8.of BX1);have hwl:w.heap.size<wr.heap.size:=by omega
            have HK:=hid (fun(V:World)(hV:Z4 g (wr.alloc (.cells #[.int .i64 u.k,.int .i64 u.n,.slice F u.l.length C] 27)).heap.size (wr.alloc (.cells #[.int .i64 u.k,.int .i64 u.n,.slice F u.l.length C] 27)) V)=>(show V.cell? ⟨wr.heap.size,0,none⟩=some (.int .i64 u.k)∧V.cell? ⟨wr.heap.size,1,none⟩=some (.int .i64 u.n)∧V.cell? ⟨wr.heap.size,2,none⟩=some (.slice F u.l.length C)∧V.cell? ⟨w.heap.size,0,none⟩=some (.int .i64 k)from
              ⟨(HXB.out.near hV (by simp) (by omega)).c0,(HXB.out.near hV (by simp) (by omega)).c1,(HXB.out.near hV (by simp) (by omega)).c2,(HXT.out.near hV (by simp<;>omega) (by omega)).c0⟩))
            have HD1:=hid ((Qa (wr.alloc (.cells #[.int .i64 u.k,.int .i64 u.n,.slice F u.l.length C] 27)).heap.size (wr.alloc (.cells #[.int .i64 u.k,.int .i64 u.n,.slice F u.l.length C] 27))).drew);have HD2:=hid (((Qa (wr.alloc (.cells #[.int .i64 u.k,.int .i64 u.n,.slice F u.l.length C] 27)).heap.size (wr.alloc (.cells #[.int .i64 u.k,.int .i64 u.n,.slice F u.l.length C] 27))).alloc Zgr (.cells #[.int .i64 0,.int .i64 0,.slice none 0 0] 27)).drew);have HD3:=hid (((Qa (wr.alloc (.cells #[.int .i64 u.k,.int .i64 u.n,.slice F u.l.length C] 27)).heap.size (wr.alloc (.cells #[.int .i64 u.k,.int .i64 u.n,.slice F u.l.length C] 27))).drew).alloc Zgr (.cells #[.int .i64 0,.int .i64 0,.slice none 0 0] 27));have HV2:=hid (fun(w5:World)(hb:Z4 g (((wr.alloc (.cells #[.int .i64 u.k,.int .i64 u.n,.slice F u.l.length C] 27)).alloc (.cells #[.int .i64 0,.int .i64 0,.slice none 0 0] 27)).drew).heap.size (((wr.alloc (.cells #[.int .i64 u.k,.int .i64 u.n,.slice F u.l.length C] 27)).alloc (.cells #[.int .i64 0,.int .i64 0,.slice none 0 0] 27)).drew) w5)=>
              (show Bk w5 (wr.heap.size+1) 27 #[.int .i64 0,.int .i64 0,.slice none 0 0]from(show Bk (((wr.alloc (.cells #[.int .i64 u.k,.int .i64 u.n,.slice F u.l.length C] 27)).alloc (.cells #[.int .i64 0,.int .i64 0,.slice none 0 0] 27)).drew) (wr.heap.size+1) 27 #[.int .i64 0,.int .i64 0,.slice none 0 0]from Qf (wr.alloc (.cells #[.int .i64 u.k,.int .i64 u.n,.slice F u.l.length C] 27)) 27 #[.int .i64 0,.int .i64 0,.slice none 0 0] (by simp)).near hb (by simp) (by omega)))
            have HV3:=hid (fun(w5:World)(hb:Z4 g (((wr.alloc (.cells #[.int .i64 u.k,.int .i64 u.n,.slice F u.l.length C] 27)).drew).alloc (.cells #[.int .i64 0,.int .i64 0,.slice none 0 0] 27)).heap.size (((wr.alloc (.cells #[.int .i64 u.k,.int .i64 u.n,.slice F u.l.length C] 27)).drew).alloc (.cells #[.int .i64 0,.int .i64 0,.slice none 0 0] 27)) w5)=>
              (show Bk w5 (wr.heap.size+1) 27 #[.int .i64 0,.int .i64 0,.slice none 0 0]from(show Bk (((wr.alloc (.cells #[.int .i64 u.k,.int .i64 u.n,.slice F u.l.length C] 27)).drew).alloc (.cells #[.int .i64 0,.int .i64 0,.slice none 0 0] 27)) (wr.heap.size+1) 27 #[.int .i64 0,.int .i64 0,.slice none 0 0]from Qf (wr.alloc (.cells #[.int .i64 u.k,.int .i64 u.n,.slice F u.l.length C] 27)) 27 #[.int .i64 0,.int .i64 0,.slice none 0 0] (by simp)).near hb (by simp) (by omega)))
            have HBB:=hid (fun(V w5:World)(hb:Z4 g V.heap.size V w5)(hV:Below (wr.alloc (.cells #[.int .i64 u.k,.int .i64 u.n,.slice F u.l.length C] 27)).heap.size (wr.alloc (.cells #[.int .i64 u.k,.int .i64 u.n,.slice F u.l.length C] 27)) V)=>(Z4.of (g:=g) hV).trans (hb.mono hV.size));clear hst hih hnode hdep hsm hbb hu hxc BX1 IH HE HEW hroom hRES;go_upto_region 8 with fail
            go_cut [11,12]from 46 to 57 (fun s11 s12 wx=>∃gv A' cap' q',s11= .pointer (some ⟨gv,0,none⟩)∧s12= .int .i64 c∧Z8 wx gv x.k x.n (.slice A' x.l.length cap')∧Z4 g (wr.alloc (.cells #[.int .i64 u.k,.int .i64 u.n,.slice F u.l.length C] 27)).heap.size (wr.alloc (.cells #[.int .i64 u.k,.int .i64 u.n,.slice F u.l.length C] 27)) wx∧Za wx (wr.heap.size+1) wx.heap.size x A' cap'∧Bk wx g 3 #[.int .i64 q']∧Zh8 RES q')
            case first=>
              go_region_held3 (fun w'=>w'.cell? ⟨wr.heap.size,0,none⟩=some (.int .i64 u.k)∧w'.cell? ⟨wr.heap.size,1,none⟩=some (.int .i64 u.n)∧w'.cell? ⟨wr.heap.size,2,none⟩=some (.slice F u.l.length C)∧w'.cell? ⟨w.heap.size,0,none⟩=some (.int .i64 k))
                (first|exact HK.out _ (Z4.of HD1.out)|exact HK.out _ (Z4.of HD2.out)|exact HK.out _ (Z4.of HD3.out)|exact HK.out _ hB5|exact HK.out _ (hB5.alloc hB5.size _)|exact HK.out _ (((hB5.setCell (by simp) _).setCell (by simp) _).setCell (by simp) _))
                (first
                | (go_at_call 164;refine(CB.out _).mono ?_;rintro e w2 ⟨rfl,rfl⟩)
                | (go_at_call 157
                   refine(HIH.out _ (by first|exact HD1.out|exact HD2.out|exact HD3.out)).mono ?_;rintro e w3 ⟨A',cap',q',rfl,hn3,hb3,hbq3,hrm3⟩;have hB5:=HBB.out _ _ hb3 (by first|exact HD1.out|exact HD2.out|exact HD3.out)
                   first
                   | (have hbkv:=HV2.out _ hb3
                      have hfz:∀o,w3.frozen? ⟨wr.heap.size+1,o,none⟩=false:=fun o=>hbkv.cold o;have d0:=hbkv.cell 0;have d1:=hbkv.cell 1;have d2:=hbkv.cell 2;simp at d0 d1 d2)
                   | (have hbkv:=HV3.out _ hb3
                      have hfz:∀o,w3.frozen? ⟨wr.heap.size+1,o,none⟩=false:=fun o=>hbkv.cold o;have d0:=hbkv.cell 0;have d1:=hbkv.cell 1;have d2:=hbkv.cell 2;simp at d0 d1 d2)
                   | skip))
              all_goals
                go_wp2_with fail;go_meet;case rel=>
                  first
                  | exact⟨_,A',cap',q',rfl,rfl,Z8.of (Qg w3 _ _),hB5.alloc hB5.size _,(hn3.wide (by simp) Zgr).late _,hbq3.alloc _,hrm3⟩
                  | exact⟨_,A',cap',q',rfl,rfl,Z8.of (((hbkv.at_ 0 (.int .i64 x.k)).at_ 1 (.int .i64 x.n)).at_ 2 (.slice A' x.l.length cap')),((hB5.setCell (by simp) _).setCell (by simp) _).setCell (by simp) _,(hn3.far3 (by simp) _ _ _).wide (by simp) (by simp[Qb]),((hbq3.far (a:=⟨wr.heap.size+1,0,none⟩) (by show g≠wr.heap.size+1;omega) _).far (a:=⟨wr.heap.size+1,1,none⟩) (by show g≠wr.heap.size+1;omega) _).far (a:=⟨wr.heap.size+1,2,none⟩) (by show g≠wr.heap.size+1;omega) _,hrm3⟩
            case rest=>
            obtain⟨gv,A',cap',q',rfl,rfl,htb,hbx,hnx,hbq',hrm'⟩:=hcut;have hzx:=hbx.size;simp at hzx;have HTB:=hid htb;have HNX:=hid hnx;have HBX:=hid hbx;have HBQ':=hid hbq';have HRM':=hid hrm';have hbw:=(hB.alloc hz (.cells #[.int .i64 u.k,.int .i64 u.n,.slice F u.l.length C] 27)).trans (hbx.mono (by simp<;>omega));have HBWC:=hid hbw;have hwz:=hbw.size;have K2:=(HB2.out.alloc (.cells #[.int .i64 u.k,.int .i64 u.n,.slice F u.l.length C] 27)).near hbx (by simp<;>omega) (by omega);have K1:=(HB1.out.alloc (.cells #[.int .i64 u.k,.int .i64 u.n,.slice F u.l.length C] 27)).near hbx (by simp<;>omega) (by omega);have HK1:=hid K1;have HK2:=hid K2;obtain⟨v0,v1,v2,vl⟩:=htb;clear hbx hnx hbw HD1 HD2 HD3 HV2 HV3 HBB HIH CB x0' x1' x2' hbq' hrm';by_cases h0:c=0
            · have hst:=HOK.out h0 q' HRM'.out;have t0:(c !=0)=false:=by rw[h0];rfl
              have HST:=hid hst;clear hst HOK HERR;have R1:=((HROW.out.alloc (.cells #[.int .i64 u.k,.int .i64 u.n,.slice F u.l.length C] 27)).near HBX.out (by omega) (fun b hb=>by have:=HPP.out b hb;omega)).alloc (.cells #[.int .i64 x.k,.int .i64 x.n,.slice A' x.l.length cap'] 27);have HR1:=hid R1;have HOW:=hid R1.row;have hown0:=R1.row.lt;clear R1 h0;go_wp2_with (at_builtin;refine Jb rfl _ _ 23 rfl (w.heap.size+2) 27 i0 (.agg #[.int .i64 0,.int .i64 0,.slice none 0 0]) 3 40 Tryz.underlying23 hi0 hz0 hz1 hz2 rfl (by decide) _ _ _ rfl HOW.out (some ⟨wc.heap.size,0,none⟩) 1 1 (Zq (x,A',cap')) rfl (Zai _ _ _ (by simp) rfl) (Jx _) ?c3 ?c4 ?c5 ?_)
              case c3=>have:=HPS.out;unfold maxLen;omega
              case c4=>have:=HPS.out;omega
              case c5=>simp;omega
              rintro v2' w3 ⟨hown3,hg3,ho3⟩;have hsz3:=hg3.size;simp at hsz3;have HRow:=hid (HR1.out.push (Pn:=fun b=>wr.heap.size+1≤b∧b<wc.heap.size) (p:=(x,A',cap')) (HNX.out.alloc Zgr (.cells #[.int .i64 x.k,.int .i64 x.n,.slice A' x.l.length cap'] 27)) (fun b hb=>⟨by have:=hb.2;simp;omega,fun e=>by
                have h1:=HROW.out.row.lt b e;omega⟩) hown3 hg3 ho3)
              have hne:∀h,h<w.heap.size+2→some h≠(Value.slice a1 ps.length c1).ownBlock:=fun h hg e=>by
                have:=hown0 h e.symm;omega
              have B1:=hid ((HK1.out.alloc (.cells #[.int .i64 x.k,.int .i64 x.n,.slice A' x.l.length cap'] 27)).grown hg3 (hne _ (by omega)));have B2:=hid ((HK2.out.alloc (.cells #[.int .i64 x.k,.int .i64 x.n,.slice A' x.l.length cap'] 27)).grown hg3 (hne _ (by omega)));have B3:=hid ((HBQ'.out.alloc (.cells #[.int .i64 x.k,.int .i64 x.n,.slice A' x.l.length cap'] 27)).grown hg3 (hne _ (by omega)));have HB4:=hid ((HBWC.out.alloc hwz (.cells #[.int .i64 x.k,.int .i64 x.n,.slice A' x.l.length cap'] 27)).grown hg3 (by simp<;>omega) (fun g e=>by have:=hown0 g e;omega));clear hown3 hg3 ho3 hown0 hne;go_wp2_with fail;go_roundw
              case rel=>
                refine⟨i+1,ps++[(x,A',cap')],fun b=>P b∨(wr.heap.size+1≤b∧b<wc.heap.size),q',by omega,rfl,HB4.out,B1.out,B2.out,HRow.out, ?_,by have:=HPS.out;simp;omega,B3.out,HST.out.2, ?_⟩
                · intro b hb;rcases hb with hb|hb
                  · exact HPP.out b hb
                  · omega
                · rw[List.map_append];exact HST.out.1
              case measure=>simp[intOf];omega
            · have herr:=HERR.out h0;have t0:(c !=0)=true:=by simpa using h0
              have HER:=hid herr;have hfz:∀o,wc.frozen? ⟨w.heap.size+1,o,none⟩=false:=fun o=>K2.cold o;have d0:wc.cell? ⟨w.heap.size+1,0,none⟩=some (.int .i64 0):=K2.cell 0;have d1:wc.cell? ⟨w.heap.size+1,1,none⟩=some (.int .i64 0):=K2.cell 1;have d2:wc.cell? ⟨w.heap.size+1,2,none⟩=some (.slice none 0 0):=K2.cell 2;have B5:=((K2.at_ 0 (.int .i64 0)).at_ 1 (.int .i64 0)).at_ 2 (.slice none 0 0);have HS0:=hid (B5.cell 0);have HS1:=hid (B5.cell 1);have HS2:=hid (B5.cell 2);clear herr HOK HERR K2 K1 B5 h0;go_wp2_with fail;refine Qc (v:= .tuple #[.agg #[.int .i64 0,.int .i64 0,.slice none 0 0],.int .i64 c]) (by simp[Qd,results157,go_sem,HS0.out,HS1.out,HS2.out]) rfl ?_;exact Z0t HER.out.1 (fun u s h=>by obtain⟨d,hd⟩:=HER.out.2;rw[hd]at h;cases h) HBWC.out (by omega) HBQ'.out (by omega)
          · obtain rfl:i=l.length:=by omega
            have HFULL:Hid (Zgs G (.node k n l) b r=(.node k n (ps.map (·.1)),0)∧Zh8 (Zcz G (.node k n l) b r) q):=hid (by
              have:=HPL.out;rw[List.take_length]at this;rw[HE.out,HEW.out,this];exact⟨rfl,fun u s h=>by injection h with h;injection h with h1 h2;exact h2.symm⟩)
            have hpar:=HROW.out.parent (lo:=w.heap.size+2) Zgr (fun b hb=>HPP.out b hb) k n;have HPAR:=hid hpar;have hfz:∀o,wr.frozen? ⟨w.heap.size+1,o,none⟩=false:=fun o=>HB2.out.cold o;have hfz1:wr.frozen? ⟨w.heap.size,2,none⟩=false:=HB1.out.cold 2;have d0:wr.cell? ⟨w.heap.size+1,0,none⟩=some (.int .i64 0):=HB2.out.cell 0;have d1:wr.cell? ⟨w.heap.size+1,1,none⟩=some (.int .i64 0):=HB2.out.cell 1;have d2:wr.cell? ⟨w.heap.size+1,2,none⟩=some (.slice none 0 0):=HB2.out.cell 2;have f0:wr.cell? ⟨w.heap.size,0,none⟩=some (.int .i64 k):=HB1.out.cell 0;have f1:wr.cell? ⟨w.heap.size,1,none⟩=some (.int .i64 n):=HB1.out.cell 1;have f2:wr.cell? ⟨w.heap.size,2,none⟩=some (.slice A l.length cap):=HB1.out.cell 2;have B5:=(((HB2.out.far (a:=⟨w.heap.size,2,none⟩) (by simp) (.slice a1 ps.length c1)).at_ 0 (.int .i64 k)).at_ 1 (.int .i64 n)).at_ 2 (.slice a1 ps.length c1);have HS0:=hid (B5.cell 0);have HS1:=hid (B5.cell 1);have HS2:=hid (B5.cell 2);clear hpar B5;go_wp2_with fail;refine Qc (v:= .tuple #[.agg #[.int .i64 k,.int .i64 n,.slice a1 ps.length c1],.int .i64 0]) (by simp[Qd,results157,go_sem,HS0.out,HS1.out,HS2.out]) rfl ?_;have:=Znv (x:= .node k n (ps.map (·.1))) (h:=w.heap.size+1) (lo:=w.heap.size+2) (A:=a1) (cap:=c1) HFULL.out.1 HFULL.out.2 (hB.setCell (p:=⟨w.heap.size,2,none⟩) Zgr (.slice a1 ps.length c1)) (by omega) ((HPAR.out.setFar (a:=⟨w.heap.size,2,none⟩) (by simp) (.slice a1 ps.length c1)).wide Zgr (by simp[Qb])) (by omega) (HBQ.out.far (a:=⟨w.heap.size,2,none⟩) (by show g≠w.heap.size;omega) (.slice a1 ps.length c1)) (by omega);have e:(TM.node k n (ps.map (·.1))).l.length=ps.length:=List.length_map _;rw[e]at this;exact this
