import Derived.Test.YtchllgkgjompgaaGreatDoorM8
import Derived.Deep.RegionLaw
import Derived.Deep.RegionWith
import Derived.Deep.CutRange
import Derived.Deep.RegionHeld3
namespace Go.Proofs.YtchllgkgjompgaaGreatDoor
set_option maxHeartbeats 4000000
set_option maxRecDepth 100000
open Go.RowKit
set_option linter.unusedVariables false
open Lib(hid)
open Go.Proofs.Tryz
theorem lrU1{n:Nat}:n≤n:=Nat.le_refl n
def ChIs (p:TM×Int) (r:Int) (g:Nat) (w:World) (e:Ending) (w':World):Prop:=
 ∃A cap,e= .returned (.tuple #[termV p.1 A cap,.int .i64 (if r - (topN p.1.size:Int)<0 then 2 else p.2)])∧IsTerm w' w.heap.size w'.heap.size p.1 A cap∧Near g w.heap.size w w'∧Bk w' g 3 #[.int .i64 (r - (topN p.1.size:Int))]
theorem chIs_of {x:TM} {c d r s:Int} {g:Nat} {w w':World} {A:Option Addr} {cap:Nat} (hs:(topN x.size:Int)=s) (hd:d=if r - s<0 then 2 else c) (hx:IsTerm w' w.heap.size w'.heap.size x A cap) (hn:Near g w.heap.size w w') (hb:Bk w' g 3 #[.int .i64 (r - s)]):
  ChIs (x,c) r g w (.returned (.tuple #[.agg #[.int .i64 x.k,.int .i64 x.n,.slice A x.l.length cap],.int .i64 d])) w':=by
 subst hd;subst hs;exact⟨A,cap,rfl,hx,hn,hb⟩
theorem ch_first (a0 gb g:Nat) (p:TM×Int) (k n b r:Int) (w:World) (h0:w.cell? ⟨gb,0,none⟩=some (.func (.func 195) #[] #[.pointer (some ⟨a0,0,none⟩)])) (hr:Bk w g 3 #[.int .i64 r]) (hr0:0≤r∧r≤8192) (hgb:gb≠g)
    (HC0:∀V,Below w.heap.size w V→Calls prog 195 #[.agg #[.int .i64 k,.int .i64 n,.slice none 0 0],.int .i64 b,.pointer (some ⟨a0,0,none⟩)] V (GivesT p V)):
    Calls prog 194 #[.agg #[.int .i64 k,.int .i64 n,.slice none 0 0],.int .i64 b,.pointer (some ⟨gb,0,none⟩),.pointer (some ⟨g,0,none⟩)] w (ChIs p r g w):=by
  have hltb:gb<w.heap.size:=World.block_lt_of_cell? w _ h0;have hltg:g<w.heap.size:=hr.lt;have HC:=hid HC0;have HR:=hid hr;obtain⟨x,c⟩:=p;obtain⟨s,hs⟩:∃s:Int,(topN x.size:Int)=s:=⟨_,rfl⟩;have hsb:0≤s∧s≤8193:=by have:=topN_le x.size;omega
  have hw1:IntKind.i64.wrap (r - s)=r - s:=IntWalk.i64_in _ (by omega);have HSZ:=hid (fun(lo hi:Nat) (A:Option Addr) (cap:Nat) (V:World) (h:IsTerm V lo hi x A cap) (hh:hi≤V.heap.size)=>tsize_any x lo hi A cap V h hh);rw[hs]at HSZ;have HS:=hid hs;have HW2:=hid (fun o1 o2=>((Below.refl w.heap.size w).alloc lrU1 o1).alloc (by simp) o2);have HBX:=hid (fun V (hV:Below ((w.alloc (.cells #[.int .i64 k,.int .i64 n,.slice none 0 0] 25)).alloc (.cells #[.int .i64 0,.int .i64 0,.slice none 0 0] 25)).heap.size ((w.alloc (.cells #[.int .i64 k,.int .i64 n,.slice none 0 0] 25)).alloc (.cells #[.int .i64 0,.int .i64 0,.slice none 0 0] 25)) V)=>(show Bk V w.heap.size 25 #[.int .i64 k,.int .i64 n,.slice none 0 0]∧Bk V (w.heap.size+1) 25 #[.int .i64 0,.int .i64 0,.slice none 0 0]∧Bk V g 3 #[.int .i64 r]from⟨((Bk.new w 25 _).alloc (.cells #[.int .i64 0,.int .i64 0,.slice none 0 0] 25)).below hV (by simp<;>omega),(Bk.last (w.alloc (.cells #[.int .i64 k,.int .i64 n,.slice none 0 0] 25)) 25 #[.int .i64 0,.int .i64 0,.slice none 0 0] (by simp)).below hV (by simp),((HR.out.alloc (.cells #[.int .i64 k,.int .i64 n,.slice none 0 0] 25)).alloc (.cells #[.int .i64 0,.int .i64 0,.slice none 0 0] 25)).below hV (by simp<;>omega)⟩));clear HC0 hr hr0 hsb hs;go_enter func194,ntmps194;go_wp2_with fail;refine(HC.out _ (HW2.out _ _)).mono ?_;rintro e w1 ⟨A',cap',rfl,hx1,hb1⟩;rw[termV];have hz1:=hb1.size;simp at hz1;obtain⟨K1,K2,K3⟩:=HBX.out _ hb1;have HB1:=hid ((HW2.out _ _).trans (hb1.mono (by simp<;>omega)));have B1:=((K1.at_ 0 (.int .i64 x.k)).at_ 1 (.int .i64 x.n)).at_ 2 (.slice A' x.l.length cap');have B2:=((K2.far (a:=⟨w.heap.size,0,none⟩) (by simp) (.int .i64 x.k)).far (a:=⟨w.heap.size,1,none⟩) (by simp) (.int .i64 x.n)).far (a:=⟨w.heap.size,2,none⟩) (by simp) (.slice A' x.l.length cap');have B3:=((K3.far (a:=⟨w.heap.size,0,none⟩) (by show g≠w.heap.size;omega) (.int .i64 x.k)).far (a:=⟨w.heap.size,1,none⟩) (by show g≠w.heap.size;omega) (.int .i64 x.n)).far (a:=⟨w.heap.size,2,none⟩) (by show g≠w.heap.size;omega) (.slice A' x.l.length cap');have HX1:=hid ((hx1.far3 (g:=w.heap.size) (by simp<;>omega) (.int .i64 x.k) (.int .i64 x.n) (.slice A' x.l.length cap')).wide (lo':=w.heap.size+2) (hi':=w1.heap.size) (by simp) lrU1);have HN1:=hid (((HB1.out.setCell (p:=⟨w.heap.size,0,none⟩) lrU1 (.int .i64 x.k)).setCell (p:=⟨w.heap.size,1,none⟩) lrU1 (.int .i64 x.n)).setCell (p:=⟨w.heap.size,2,none⟩) lrU1 (.slice A' x.l.length cap'));have c0:w1.cell? ⟨w.heap.size,0,none⟩=some (.int .i64 k):=K1.cell 0;have c1:w1.cell? ⟨w.heap.size,1,none⟩=some (.int .i64 n):=K1.cell 1;have c2:w1.cell? ⟨w.heap.size,2,none⟩=some (.slice none 0 0):=K1.cell 2;have hfz0:∀o,w1.frozen? ⟨w.heap.size,o,none⟩=false:=fun o=>K1.cold o;obtain⟨X,hX⟩:∃X,((w1.setCell ⟨w.heap.size,0,none⟩ (.int .i64 x.k)).setCell ⟨w.heap.size,1,none⟩ (.int .i64 x.n)).setCell ⟨w.heap.size,2,none⟩ (.slice A' x.l.length cap')=X:=⟨_,rfl⟩;have hXz:X.heap.size=w1.heap.size:=by rw[←hX];simp[World.setCell]
  rw[hX]at B1 B2 B3 HX1 HN1;have HB1':=hid B1;have HB2':=hid B2;have HB3':=hid B3;clear K1 K2 K3 B1 B2 B3 hb1 hx1;have HK:=hid (fun V (hV:Below X.heap.size X V)=>(show(V.cell? ⟨g,0,none⟩=some (.int .i64 r))∧(∀o,V.frozen? ⟨g,o,none⟩=false)∧V.cell? ⟨w.heap.size,0,none⟩=some (.int .i64 x.k)∧V.cell? ⟨w.heap.size,1,none⟩=some (.int .i64 x.n)∧V.cell? ⟨w.heap.size,2,none⟩=some (.slice A' x.l.length cap')from
    ⟨(HB3'.out.below hV (by omega)).cell 0,fun o=>(HB3'.out.below hV (by omega)).cold o,(HB1'.out.below hV (by omega)).cell 0,(HB1'.out.below hV (by omega)).cell 1,(HB1'.out.below hV (by omega)).cell 2⟩))
  have hbk:=hid ((Below.refl X.heap.size X).drew);have HSX:=hid (fun V (hV:Below X.heap.size X V)=>HSZ.out (w.heap.size+2) w1.heap.size A' cap' V (HX1.out.kept hV (by omega)) (by have:=hV.size;omega));obtain⟨y0,hfz,y1,y2,y3⟩:=HK.out _ hbk.out;go_upto_region 2 with fail
  subst hX;go_region_law
    (first
     | (go_simp;go_at_call 109;refine(HSX.out _ hbk.out).mono ?_;rintro e w3 ⟨rfl,hbn⟩;have hbk:=hid (hbk.out.trans (hbn.mono hbk.out.size));clear hbn y0 hfz y1 y2 y3;obtain⟨y0,hfz,y1,y2,y3⟩:=HK.out _ hbk.out))
  all_goals
    have hz3:=hbk.out.size;have K2:=HB2'.out.below hbk.out (by omega);have K3:=HB3'.out.below hbk.out (by omega);have HX3:=hid (((HX1.out.kept hbk.out (by omega)).setFar (a:=⟨g,0,none⟩) (by show g<_;omega) (.int .i64 (r - s))).far3 (g:=w.heap.size+1) (by omega) (.int .i64 x.k) (.int .i64 x.n) (.slice A' x.l.length cap'));have HN3:=hid (((((Near.of (g:=g) (HN1.out.trans (hbk.out.mono (by omega)))).own 0 (.int .i64 (r - s))).setCell (p:=⟨w.heap.size+1,0,none⟩) (by show w.heap.size≤w.heap.size+1;omega) (.int .i64 x.k)).setCell (p:=⟨w.heap.size+1,1,none⟩) (by show w.heap.size≤w.heap.size+1;omega) (.int .i64 x.n)).setCell (p:=⟨w.heap.size+1,2,none⟩) (by show w.heap.size≤w.heap.size+1;omega) (.slice A' x.l.length cap'));have hfzR:∀o,w3.frozen? ⟨w.heap.size+1,o,none⟩=false:=fun o=>K2.cold o;have d0:w3.cell? ⟨w.heap.size+1,0,none⟩=some (.int .i64 0):=K2.cell 0;have d1:w3.cell? ⟨w.heap.size+1,1,none⟩=some (.int .i64 0):=K2.cell 1;have d2:w3.cell? ⟨w.heap.size+1,2,none⟩=some (.slice none 0 0):=K2.cell 2;have E5:=(((K2.far (a:=⟨g,0,none⟩) (by show w.heap.size+1≠g;omega) (.int .i64 (r - s))).at_ 0 (.int .i64 x.k)).at_ 1 (.int .i64 x.n)).at_ 2 (.slice A' x.l.length cap');have HS0:=hid (E5.cell 0);have HS1:=hid (E5.cell 1);have HS2:=hid (E5.cell 2);have HBK:=hid ((((K3.at_ 0 (.int .i64 (r - s))).far (a:=⟨w.heap.size+1,0,none⟩) (by show g≠w.heap.size+1;omega) (.int .i64 x.k)).far (a:=⟨w.heap.size+1,1,none⟩) (by show g≠w.heap.size+1;omega) (.int .i64 x.n)).far (a:=⟨w.heap.size+1,2,none⟩) (by show g≠w.heap.size+1;omega) (.slice A' x.l.length cap'));have HZ3:Hid (w1.heap.size≤w3.heap.size):=hid (by omega);clear K2 K3 E5 HK HSX HBX HC HSZ;by_cases hneg:r - s<0
    · have HG:=hid (show(2:Int)=if r - s<0 then 2 else c from(if_pos hneg).symm);go_wp2_with fail;refine bodyPost_ret (v:= .tuple #[.agg #[.int .i64 x.k,.int .i64 x.n,.slice A' x.l.length cap'],.int .i64 2]) (by simp[results,results194,go_sem,HS0.out,HS1.out,HS2.out]) rfl ?_;exact chIs_of HS.out HG.out (HX3.out.wide (by omega) (by have:=HZ3.out;simp[World.setCell];omega)) HN3.out HBK.out
    · have HG:=hid (show c=if r - s<0 then 2 else c from(if_neg hneg).symm);go_wp2_with fail;refine bodyPost_ret (v:= .tuple #[.agg #[.int .i64 x.k,.int .i64 x.n,.slice A' x.l.length cap'],.int .i64 c]) (by simp[results,results194,go_sem,HS0.out,HS1.out,HS2.out]) rfl ?_;exact chIs_of HS.out HG.out (HX3.out.wide (by omega) (by have:=HZ3.out;simp[World.setCell];omega)) HN3.out HBK.out
def OutCalls (ga g:Nat) (G:Bec) (w0:World):Prop:=∀(k n b r:Int) (V:World),Near g w0.heap.size w0 V→Bk V g 3 #[.int .i64 r]→varOk k n b→0≤r→r≤8192→
 Calls prog 194 #[.agg #[.int .i64 k,.int .i64 n,.slice none 0 0],.int .i64 b,.pointer (some ⟨ga,0,none⟩),.pointer (some ⟨g,0,none⟩)] V (ChIs (G k n b) r g V)
def outX (G:Bec):TM→Int→Int→TM×Int
 | .node k n l,b,r=>if isV k n b then((G k n b).1,if r - (topN (G k n b).1.size:Int)<0 then 2 else(G k n b).2)else
  match witM G k 0 l b r with
  | .error c=>(.node 0 0 [],c)
  | .ok (us,_)=>(.node k n us,0)
theorem outX_node (G:Bec) (k n:Int) (l:List TM) (b r:Int):outX G (.node k n l) b r=if isV k n b then((G k n b).1,if r - (topN (G k n b).1.size:Int)<0 then 2 else(G k n b).2)else
  match witM G k 0 l b r with
  | .error c=>(.node 0 0 [],c)
  | .ok (us,_)=>(.node k n us,0):=rfl
theorem leafR_ne {p:TM×Int} {r c:Int} (h:leafR p r= .error c):c≠0:=by
 unfold leafR at h;split at h
 ·injection h with h;omega
 ·split at h
  ·cases h
  ·injection h with h;subst h;assumption
theorem leafR_room {p:TM×Int} {r:Int} {u:TM} {q:Int} (h:leafR p r= .ok (u,q)) (hr:0≤r):0≤q∧q≤r:=by
 unfold leafR at h;split at h
 ·cases h
 ·split at h
  ·injection h with h;injection h with h1 h2;subst h2;omega
  ·cases h
theorem wit_room (G:Bec):∀(t:TM) (b r:Int),0≤r→(∀u q,witT G t b r= .ok (u,q)→0≤q∧q≤r)∧(∀c,witT G t b r= .error c→c≠0):=by
 intro t;induction t using TM.ind with
 | h k n l ih=>
  intro b r hr;have hL:∀(m:List TM),(∀u∈m,u∈l)→∀(i:Nat) (r:Int),0≤r→(∀us q,witM G k i m b r= .ok (us,q)→0≤q∧q≤r)∧(∀c,witM G k i m b r= .error c→c≠0):=by
   intro m;induction m with
   | nil=>
    intro _ i r h0;rw[witM_nil];refine⟨fun us q h=> ?_,fun c h=>(nomatch h)⟩;injection h with h;injection h with h1 h2;omega
   | cons u m ihm=>
    intro hm i r h0;obtain⟨a1,a2⟩:=ih u (hm u List.mem_cons_self) (b+bnd k i) r h0;rw[witM_cons];cases e:witT G u (b+bnd k i) r with
    | error c=>
     refine⟨fun us q h=>(nomatch h),fun d h=> ?_⟩;injection h with h;subst h;exact a2 _ e
    | ok p=>
     obtain⟨v,q⟩:=p;obtain⟨q0,q1⟩:=a1 v q e;obtain⟨b1,b2⟩:=ihm (fun v hv=>hm v (List.mem_cons_of_mem _ hv)) (i+1) q q0;simp only[];cases e2:witM G k (i+1) m b q with
     | error c=>
      refine⟨fun us q h=>(nomatch h),fun d h=> ?_⟩;injection h with h;subst h;exact b2 _ e2
     | ok p=>
      obtain⟨vs,s⟩:=p;have:=b1 vs s e2;refine⟨fun us q h=> ?_,fun d h=>(nomatch h)⟩;injection h with h;injection h with h1 h2;omega
  rw[witT_node];by_cases hv:isV k n b
  ·rw[if_pos hv];exact⟨fun u q h=>leafR_room h hr,fun c h=>leafR_ne h⟩
  ·rw[if_neg hv];obtain⟨b1,b2⟩:=hL l (fun _ h=>h) 0 r hr;cases e:witM G k 0 l b r with
   | error c=>
    refine⟨fun us q h=>(nomatch h),fun d h=> ?_⟩;injection h with h;subst h;exact b2 _ e
   | ok p=>
    obtain⟨vs,s⟩:=p;have:=b1 vs s e;refine⟨fun us q h=> ?_,fun d h=>(nomatch h)⟩;injection h with h;injection h with h1 h2;omega
theorem out_ok {G:Bec} {t:TM} {b r:Int} {u:TM} {q:Int} (h:witT G t b r= .ok (u,q)):outX G t b r=(u,0):=by
 obtain⟨k,n,l⟩:=t;rw[witT_node]at h;rw[outX_node];split at h
 ·rename_i hv
  rw[if_pos hv];unfold leafR at h;split at h
  ·cases h
  ·rename_i hr
   split at h
   ·rename_i h0
    injection h with h;injection h with h1 h2;rw[if_neg hr,h1,h0]
   ·cases h
 ·rename_i hv
  rw[if_neg hv];cases e:witM G k 0 l b r with
  | error c=>rw[e]at h;cases h
  | ok p=>
   obtain⟨us,s⟩:=p;rw[e]at h;injection h with h;injection h with h1 h2;rw[←h1]
theorem out_err {G:Bec} {t:TM} {b r c:Int} (h:witT G t b r= .error c):(outX G t b r).2=c:=by
 obtain⟨k,n,l⟩:=t;rw[witT_node]at h;rw[outX_node];split at h
 ·rename_i hv
  rw[if_pos hv];unfold leafR at h;split at h
  ·rename_i hr
   injection h with h;show(if _ then(2:Int)else _)=c
   rw[if_pos hr,h]
  ·rename_i hr
   split at h
   ·cases h
   ·injection h with h;show(if _ then(2:Int)else _)=c
    rw[if_neg hr,h]
 ·rename_i hv
  rw[if_neg hv];cases e:witM G k 0 l b r with
  | error d=>rw[e]at h;injection h with h
  | ok p=>
   obtain⟨us,s⟩:=p;rw[e]at h;cases h
theorem leaf_room (p:TM×Int) (r:Int) (u:TM) (s:Int) (h:leafR p r= .ok (u,s)):s=r - (topN p.1.size:Int):=by
 unfold leafR at h;split at h
 ·cases h
 ·split at h
  ·injection h with h;injection h with h1 h2;exact h2.symm
  ·cases h
def RoomIs (res:Except Int (TM×Int)) (q:Int):Prop:=∀u s,res= .ok (u,s)→s=q
def WithIs (G:Bec) (t:TM) (b r:Int) (g:Nat) (w:World) (e:Ending) (w':World):Prop:=
 ∃A cap q,e= .returned (.tuple #[termV (outX G t b r).1 A cap,.int .i64 (outX G t b r).2])∧IsTerm w' w.heap.size w'.heap.size (outX G t b r).1 A cap∧Near g w.heap.size w w'∧Bk w' g 3 #[.int .i64 q]∧RoomIs (witT G t b r) q
def WithRel (G:Bec) (g:Nat) (r:Int) (w:World) (k n b:Int) (l:List TM) (A:Option Addr) (cap:Nat) (nv iv:Value) (wr:World):Prop:=
 ∃(i:Nat) (ps:List (TM×Option Addr×Nat)) (P:Nat→Prop) (q:Int),i≤l.length∧iv= .int .i64 i∧Near g w.heap.size w wr∧
  Bk wr w.heap.size 25 #[.int .i64 k,.int .i64 n,.slice A l.length cap]∧Bk wr (w.heap.size+1) 25 #[.int .i64 0,.int .i64 0,.slice none 0 0]∧
  TermRow wr (w.heap.size+2) 25 nv ps P∧(∀b,P b→w.heap.size+2≤b)∧ps.length=i∧Bk wr g 3 #[.int .i64 q]∧(0≤q∧q≤8192)∧witM G k 0 (l.take i) b r= .ok (ps.map (·.1),q)
theorem with_give {G:Bec} {t x:TM} {b r c q:Int} {g h lo:Nat} {w w1:World} {A:Option Addr} {cap:Nat} (ho:outX G t b r=(x,c)) (hq:RoomIs (witT G t b r) q) (hn:Near g w.heap.size w w1) (hh:w.heap.size≤h) (hx:IsTerm w1 lo w1.heap.size x A cap) (hlo:h<lo) (hb:Bk w1 g 3 #[.int .i64 q]) (hgh:g<h):
  WithIs G t b r g w (.returned (.tuple #[.agg #[.int .i64 x.k,.int .i64 x.n,.slice A x.l.length cap],.int .i64 c])) (((w1.setCell ⟨h,0,none⟩ (.int .i64 x.k)).setCell ⟨h,1,none⟩ (.int .i64 x.n)).setCell ⟨h,2,none⟩ (.slice A x.l.length cap)):=by
 refine⟨A,cap,q,by rw[ho];rfl, ?_,((hn.setCell (p:=⟨h,0,none⟩) hh _).setCell (p:=⟨h,1,none⟩) hh _).setCell (p:=⟨h,2,none⟩) hh _,((hb.far (a:=⟨h,0,none⟩) (by show g≠h;omega) _).far (a:=⟨h,1,none⟩) (by show g≠h;omega) _).far (a:=⟨h,2,none⟩) (by show g≠h;omega) _,hq⟩;rw[ho];exact(hx.far3 hlo _ _ _).wide (by omega) (by simp[World.setCell])
theorem with_zero {G:Bec} {t:TM} {b r c q:Int} {g h:Nat} {w w1:World} (ho:outX G t b r=(.node 0 0 [],c)) (hq:RoomIs (witT G t b r) q) (hn:Near g w.heap.size w w1) (hh:w.heap.size≤h) (hb:Bk w1 g 3 #[.int .i64 q]) (hgh:g<h):
  WithIs G t b r g w (.returned (.tuple #[.agg #[.int .i64 0,.int .i64 0,.slice none 0 0],.int .i64 c])) (((w1.setCell ⟨h,0,none⟩ (.int .i64 0)).setCell ⟨h,1,none⟩ (.int .i64 0)).setCell ⟨h,2,none⟩ (.slice none 0 0)):=
 with_give (x:= .node 0 0 []) (lo:=h+1) ho hq hn hh (leaf_in _ _ 0 0) (by omega) hb hgh
theorem withinS_any (ga g:Nat) (G:Bec) (w0:World) (hgw:g<w0.heap.size) (HV0:OutCalls ga g G w0):
    ∀(t:TM) (b r:Int) (lo hi:Nat) (A:Option Addr) (cap:Nat) (w:World),IsTerm w lo hi t A cap→hi≤g→Near g w0.heap.size w0 w→Bk w g 3 #[.int .i64 r]→0≤r→r≤8192→tgoodB t=true→t.size≤8192→0≤b→b+t.depth≤200→
    Calls prog 193 #[termV t A cap,.int .i64 b,.func (.func 194) #[] #[.pointer (some ⟨ga,0,none⟩),.pointer (some ⟨g,0,none⟩)]] w (WithIs G t b r g w):=by
  have HV:=hid HV0;clear HV0;intro t;induction t using TM.ind with
  | h k n l ih=>
    intro b r lo hi A cap w h hhi hw0 hbr hr0 hr1 hg hsz hb0 hb1;obtain⟨i0,hi0,hz0,hz1,hz2⟩:=info_parts infoM;obtain⟨hl,hm⟩:=h.bounds;obtain⟨g1,g2,g3,g4,g5,g6,g7⟩:=good_parts hg;have hglt:g<w.heap.size:=hbr.lt;rw[tsize_node]at hsz;rw[tdepth_node]at hb1;have hll:=sizeM_len l;have hl9:l.length≤8192:=by omega
    have hb2:b≤199:=by omega
    have HW0:=hid (fun(V:World) (hV:Near g w.heap.size w V)=>hw0.trans (hV.mono hw0.size));have HN:=hid h.sub;have HBR:=hid hbr;have HHI:=hid hhi;have HR:=hid (And.intro hr0 hr1);by_cases hvar:isV k n b
    · obtain rfl:l=[]:=by
        have h0:manyM k=0:=by unfold manyM;rcases hvar with h|h<;>(rw[if_neg (by omega),if_neg (by omega)])
        rw[h0]at g3;exact List.length_eq_zero_iff.1 g3
      have hvo:varOk k n b:=⟨hvar,g4,g5,hb0,by omega⟩;have HC:=hid (fun(V:World) (hV:Near g w.heap.size w V) (hB:Bk V g 3 #[.int .i64 r])=>HV.out k n b r V (HW0.out V hV) hB hvo hr0 hr1);have HW1:=hid (fun o1 o2=>Near.of (g:=g) (((Below.refl w.heap.size w).alloc lrU1 o1).alloc (by simp) o2));obtain⟨p,hp⟩:∃p,G k n b=p:=⟨_,rfl⟩;have HO:=hid (show outX G (.node k n []) b r=(p.1,if r - (topN p.1.size:Int)<0 then 2 else p.2)by rw[outX_node,if_pos hvar,hp]);have HRM:=hid (show RoomIs (witT G (.node k n []) b r) (r - (topN p.1.size:Int))from fun u s h=>by rw[witT_node,if_pos hvar,hp]at h;exact leaf_room p r u s h);rw[hp]at HC;have HVAR:Hid (k=8∨((k==8)=false∧(k==1)=true∧decide (n≥b)=true)):=hid (by
        by_cases h8:k=8
        · exact .inl h8
        · rcases hvar with h|h
          · exact absurd h h8
          · exact .inr ⟨by simpa using h8,by simpa using h.1,decide_eq_true h.2⟩)
      unfold maxLen at hm;clear ih h hvar hp g1 g2 g3 g4 g5 g6 g7 hg hsz hb1 hll hl9 HN hw0 hb2 hvo hbr hhi hr0 hr1 hb0;rw[termV_node];go_enter func193,ntmps193;rcases HVAR.out with h8|⟨e1,e2,e3⟩
      rotate_left
      have e0:True:=trivial
      rotate_right
      have e1:(k==8)=true:=by rw[h8];rfl
      clear h8;all_goals
        go_wp2_with fail;refine(HC.out _ (HW1.out _ _) ((HBR.out.alloc (.cells #[.int .i64 k,.int .i64 n,.slice none 0 0] 25)).alloc (.cells #[.int .i64 0,.int .i64 0,.slice none 0 0] 25))).mono ?_;rintro e w1 ⟨A',cap',rfl,hn1,hb1,hr1⟩;have hz1:=hb1.size;simp at hz1;have BK:=(Bk.last (w.alloc (.cells #[.int .i64 k,.int .i64 n,.slice none 0 0] 25)) 25 #[.int .i64 0,.int .i64 0,.slice none 0 0] (g:=w.heap.size+1) (by simp)).near hb1 (by simp) (by omega);have HB1:=hid ((HW1.out _ _).trans (hb1.mono (by simp<;>omega)));obtain⟨x,hx⟩:∃x,p.1=x:=⟨_,rfl⟩;obtain⟨cc,hcc⟩:∃cc,(if r - (topN p.1.size:Int)<0 then 2 else p.2)=cc:=⟨_,rfl⟩;rw[hcc]at HO⊢;rw[hx]at HO hn1⊢;have hfz:∀o,w1.frozen? ⟨w.heap.size+1,o,none⟩=false:=fun o=>BK.cold o;have d0:w1.cell? ⟨w.heap.size+1,0,none⟩=some (.int .i64 0):=BK.cell 0;have d1:w1.cell? ⟨w.heap.size+1,1,none⟩=some (.int .i64 0):=BK.cell 1;have d2:w1.cell? ⟨w.heap.size+1,2,none⟩=some (.slice none 0 0):=BK.cell 2;rw[termV];have B5:=((BK.at_ 0 (.int .i64 x.k)).at_ 1 (.int .i64 x.n)).at_ 2 (.slice A' x.l.length cap');have HS0:=hid (B5.cell 0);have HS1:=hid (B5.cell 1);have HS2:=hid (B5.cell 2);simp at hn1;have HN1:=hid hn1;have HR1:=hid hr1;clear B5 BK hb1 hn1 hx hcc hr1;go_wp2_with fail;refine bodyPost_ret (v:= .tuple #[.agg #[.int .i64 x.k,.int .i64 x.n,.slice A' x.l.length cap'],.int .i64 cc]) (by simp[results,results193,go_sem,HS0.out,HS1.out,HS2.out]) rfl ?_;exact with_give HO.out HRM.out HB1.out (by omega) HN1.out (by omega) HR1.out (by omega)
    · have IH:=hid ih;have HE:=hid (show outX G (.node k n l) b r=(match witM G k 0 l b r with| .error c=>(.node 0 0 [],c)| .ok (us,_)=>(.node k n us,0))by rw[outX_node,if_neg hvar]);have HEW:=hid (show witT G (.node k n l) b r=(match witM G k 0 l b r with| .error c=> .error c| .ok (us,q)=> .ok (.node k n us,q))by rw[witT_node,if_neg hvar];cases witM G k 0 l b r<;>rfl);have HFACT:Hid ((∀u∈l,tgoodB u=true)∧sizeM l≤8192∧b+depthM l≤199):=hid ⟨g7,by omega,by omega⟩;have hlen2:l.length≤2:=by have:=manyM_le k;omega
      have HSKIP:Hid ((k==8)=false∧(((k==1)=true∧decide (n≥b)=false)∨(k==1)=false)):=hid ⟨by
        have: ¬ k=8:=fun h=>hvar (.inl h);simpa using this,by
        by_cases h1:k=1
        · exact .inl ⟨by rw[h1];rfl,decide_eq_false (fun h2=>hvar (.inr ⟨h1,h2⟩))⟩
        · exact .inr (by simpa using h1)⟩
      unfold maxLen at hm;clear ih h hvar g1 g2 g3 g4 g5 g6 g7 hg hsz hb1 hll hw0 hbr hr0 hr1;rw[termV_node];go_enter func193,ntmps193;obtain⟨e0,hsk⟩:=HSKIP.out;rcases hsk with ⟨e1,e2⟩|e1
      all_goals
        go_wp2_with fail;refine((growM_any l.length hl9 _)).mono ?_;rintro e w1 ⟨v0,rfl,ho0,hbx⟩;obtain⟨a0,cc0,rfl⟩:=own_sliceM ho0;have hz0':=hbx.size;simp at hz0';have hBK1:Bk w1 w.heap.size 25 #[.int .i64 k,.int .i64 n,.slice A l.length cap]:=((Bk.new w 25 _).alloc _).below hbx (by simp<;>omega);have hBK2:Bk w1 (w.heap.size+1) 25 #[.int .i64 0,.int .i64 0,.slice none 0 0]:=(Bk.last (w.alloc (.cells #[.int .i64 k,.int .i64 n,.slice A l.length cap] 25)) 25 #[.int .i64 0,.int .i64 0,.slice none 0 0] (by simp)).below hbx (by simp);have hBKR:Bk w1 g 3 #[.int .i64 r]:=((HBR.out.alloc (.cells #[.int .i64 k,.int .i64 n,.slice A l.length cap] 25)).alloc (.cells #[.int .i64 0,.int .i64 0,.slice none 0 0] 25)).below hbx (by simp<;>omega);have hB0:=(((Below.refl w.heap.size w).alloc lrU1 (.cells #[.int .i64 k,.int .i64 n,.slice A l.length cap] 25)).alloc (by simp) (.cells #[.int .i64 0,.int .i64 0,.slice none 0 0] 25)).trans (hbx.mono (by simp<;>omega));have y0:w1.cell? ⟨w.heap.size,2,none⟩=some (.slice A l.length cap):=hBK1.cell 2;have hl0:w.heap.size<w1.heap.size:=by omega
        have HO0:=hid ho0;have HBK1:=hid hBK1;have HBK2:=hid hBK2;have HBKR:=hid hBKR;have HB0:=hid (Near.of (g:=g) hB0);clear ho0 hBK1 hBK2 hBKR hB0 hbx;go_wp2_with fail;go_loopw [8,41] (WithRel G g r w k n b l A cap) (fun _ iv _=>l.length - (intOf iv).toNat)
        case atStart=>
          refine⟨0,[],fun _=>False,r,Nat.zero_le _,rfl,HB0.out,HBK1.out,HBK2.out,⟨?_,fun _ h=>h.elim,fun _ h=>by cases h⟩,fun _ h=>h.elim,rfl,HBKR.out,HR.out,by rw[List.take_zero,witM_nil];rfl⟩;have h:=HO0.out;refine⟨h.1, ?_⟩;rcases h.2 with h1|⟨g,cp,cur,h1,h2,h3⟩
          · exact .inl h1
          · exact .inr ⟨g,cp,cur,h1,by simp at h2;omega,h3⟩
        case round=>
          obtain⟨i,ps,P,q,hi1,rfl,hB,b1,b2,hrow,hP,hps,hbq,hq,hpl⟩:=hrel;have hz:=hB.size;have hlt2:=b2.lt;obtain⟨a1,c1,rfl⟩:=own_sliceM hrow.row;have HPS:=hid hps;have HB1:=hid b1;have HB2:=hid b2;have HROW:=hid hrow;have HPP:=hid hP;have HPL:=hid hpl;have HBQ:=hid hbq;have HQ:=hid hq;clear b1 b2 hrow hP hpl hps hbq hq;by_cases hil:i<l.length
          · obtain⟨bk,o,F,C,hA,hb1,hb2,hx,hnode⟩:=(HN.out i hil).near hB (by omega) hhi;subst hA;obtain⟨x0',x1',x2'⟩:=hx;have hi1':(i:Int)<(l.length:Int):=by omega
            have hb01:=bnd_01 k i;have hst:=witM_take G k b r hil HPL.out;have hdep:l[i].depth≤depthM l:=by
              have h1:=depthM_append (l.take (i+1)) (l.drop (i+1));rw[List.take_append_drop,depthM_snoc hil]at h1;omega
            have hsm:l[i].size≤8192:=by have h1:=tsize_mem (List.getElem_mem hil);have h2:=HFACT.out.2.1;omega
            have hih:=fun(V:World) (hV:Near g w.heap.size w V) h1 h2=>IH.out (l[i]'hil) (List.getElem_mem hil) (b+bnd k i) q lo hi F C V h1 hhi (HW0.out V hV) h2 HQ.out.1 HQ.out.2 (HFACT.out.1 _ (List.getElem_mem hil)) hsm (by omega) (by have:=HFACT.out.2.2;omega);obtain⟨bb,hbb⟩:∃bb,bnd k i=bb:=⟨_,rfl⟩;have CB:=hid (fun V=>sbinders_any k i V);rw[hbb]at hb01 hst hih CB;obtain⟨u,hu⟩:∃u,l[i]=u:=⟨_,rfl⟩;rw[hu]at hst hih hnode x0' x1' x2' hdep hsm;have hw1:IntKind.i64.wrap (b+bb)=b+bb:=IntWalk.i64_in _ (by omega);obtain⟨x,c,hxc⟩:∃x c,outX G u (b+bb) q=(x,c):=⟨_,_,rfl⟩;obtain⟨RES,hRES⟩:∃RES,witT G u (b+bb) q=RES:=⟨_,rfl⟩;have hroom:=wit_room G u (b+bb) q HQ.out.1;rw[hRES]at hst hroom;have HOK:Hid (c=0→∀q',RoomIs RES q'→witM G k 0 (l.take (i+1)) b r= .ok (ps.map (·.1)++[x],q')∧0≤q'∧q'≤8192):=hid (fun h0 q' hq'=>by
              cases e:RES with
              | error d=>
                have h1:=out_err (hRES.trans e);rw[hxc]at h1;exact absurd (h1.symm.trans h0) (hroom.2 d e)
              | ok y=>
                obtain⟨y,s⟩:=y;have h1:=out_ok (hRES.trans e);rw[hxc]at h1;injection h1 with h2 h3;have h4:=hq' y s e;have h5:=hroom.1 y s e;have h6:=HQ.out;rw[hst,e,h2,←h4];exact⟨rfl,by omega,by omega⟩)
            have HERR:Hid (c≠0→outX G (.node k n l) b r=(.node 0 0 [],c)∧∃d,witT G (.node k n l) b r= .error d):=hid (fun h0=>by
              cases e:RES with
              | error d=>
                have h1:=out_err (hRES.trans e);rw[hxc]at h1;rw[e]at hst;have h3:=witM_err G k b r hst;rw[HE.out,HEW.out,h3];exact⟨by rw[←h1],d,rfl⟩
              | ok y=>
                obtain⟨y,s⟩:=y;have h1:=out_ok (hRES.trans e);rw[hxc]at h1;injection h1 with h2 h3;exact absurd h3 h0)
            have HNO:=hid hnode;have HIH:Hid (∀(V:World),Below (wr.alloc (.cells #[.int .i64 u.k,.int .i64 u.n,.slice F u.l.length C] 25)).heap.size (wr.alloc (.cells #[.int .i64 u.k,.int .i64 u.n,.slice F u.l.length C] 25)) V→Calls prog 193 #[.agg #[.int .i64 u.k,.int .i64 u.n,.slice F u.l.length C],.int .i64 (b+bb),.func (.func 194) #[] #[.pointer (some ⟨ga,0,none⟩),.pointer (some ⟨g,0,none⟩)]] V fun e w'=>
                ∃A' cap' q',e= .returned (.tuple #[.agg #[.int .i64 x.k,.int .i64 x.n,.slice A' x.l.length cap'],.int .i64 c])∧IsTerm w' V.heap.size w'.heap.size x A' cap'∧Near g V.heap.size V w'∧Bk w' g 3 #[.int .i64 q']∧RoomIs RES q'):=hid (fun V hV=>by
              have hbb:=(hB.alloc hz (.cells #[.int .i64 u.k,.int .i64 u.n,.slice F u.l.length C] 25)).trans ((Near.of (g:=g) hV).mono (by simp<;>omega));have h1:=hih V hbb (HNO.out.kept (((Below.refl wr.heap.size wr).alloc lrU1 (.cells #[.int .i64 u.k,.int .i64 u.n,.slice F u.l.length C] 25)).trans (hV.mono (by simp))) (by omega)) ((HBQ.out.alloc (.cells #[.int .i64 u.k,.int .i64 u.n,.slice F u.l.length C] 25)).below hV (by simp<;>omega));unfold WithIs at h1;rw[hxc,hRES]at h1;exact h1)
            have BX1:=(HB1.out.alloc (.cells #[.int .i64 u.k,.int .i64 u.n,.slice F u.l.length C] 25));have HXB:=hid (show TBox (wr.alloc (.cells #[.int .i64 u.k,.int .i64 u.n,.slice F u.l.length C] 25)) wr.heap.size u.k u.n (.slice F u.l.length C)from TBox.of (Bk.new wr 25 _));have HXT:=hid (show TBox (wr.alloc (.cells #[.int .i64 u.k,.int .i64 u.n,.slice F u.l.length C] 25)) w.heap.size k n (.slice (some ⟨bk,o,none⟩) l.length cap)from TBox.of BX1);have hwl:w.heap.size<wr.heap.size:=by omega
            have HK:=hid (fun(V:World) (hV:Near g (wr.alloc (.cells #[.int .i64 u.k,.int .i64 u.n,.slice F u.l.length C] 25)).heap.size (wr.alloc (.cells #[.int .i64 u.k,.int .i64 u.n,.slice F u.l.length C] 25)) V)=>(show V.cell? ⟨wr.heap.size,0,none⟩=some (.int .i64 u.k)∧V.cell? ⟨wr.heap.size,1,none⟩=some (.int .i64 u.n)∧V.cell? ⟨wr.heap.size,2,none⟩=some (.slice F u.l.length C)∧V.cell? ⟨w.heap.size,0,none⟩=some (.int .i64 k)from
              ⟨(HXB.out.near hV (by simp) (by omega)).c0,(HXB.out.near hV (by simp) (by omega)).c1,(HXB.out.near hV (by simp) (by omega)).c2,(HXT.out.near hV (by simp<;>omega) (by omega)).c0⟩))
            have HD1:=hid ((Below.refl (wr.alloc (.cells #[.int .i64 u.k,.int .i64 u.n,.slice F u.l.length C] 25)).heap.size (wr.alloc (.cells #[.int .i64 u.k,.int .i64 u.n,.slice F u.l.length C] 25))).drew);have HD2:=hid (((Below.refl (wr.alloc (.cells #[.int .i64 u.k,.int .i64 u.n,.slice F u.l.length C] 25)).heap.size (wr.alloc (.cells #[.int .i64 u.k,.int .i64 u.n,.slice F u.l.length C] 25))).alloc lrU1 (.cells #[.int .i64 0,.int .i64 0,.slice none 0 0] 25)).drew);have HD3:=hid (((Below.refl (wr.alloc (.cells #[.int .i64 u.k,.int .i64 u.n,.slice F u.l.length C] 25)).heap.size (wr.alloc (.cells #[.int .i64 u.k,.int .i64 u.n,.slice F u.l.length C] 25))).drew).alloc lrU1 (.cells #[.int .i64 0,.int .i64 0,.slice none 0 0] 25));have HV2:=hid (fun(w5:World) (hb:Near g (((wr.alloc (.cells #[.int .i64 u.k,.int .i64 u.n,.slice F u.l.length C] 25)).alloc (.cells #[.int .i64 0,.int .i64 0,.slice none 0 0] 25)).drew).heap.size (((wr.alloc (.cells #[.int .i64 u.k,.int .i64 u.n,.slice F u.l.length C] 25)).alloc (.cells #[.int .i64 0,.int .i64 0,.slice none 0 0] 25)).drew) w5)=>
              (show Bk w5 (wr.heap.size+1) 25 #[.int .i64 0,.int .i64 0,.slice none 0 0]from(show Bk (((wr.alloc (.cells #[.int .i64 u.k,.int .i64 u.n,.slice F u.l.length C] 25)).alloc (.cells #[.int .i64 0,.int .i64 0,.slice none 0 0] 25)).drew) (wr.heap.size+1) 25 #[.int .i64 0,.int .i64 0,.slice none 0 0]from Bk.last (wr.alloc (.cells #[.int .i64 u.k,.int .i64 u.n,.slice F u.l.length C] 25)) 25 #[.int .i64 0,.int .i64 0,.slice none 0 0] (by simp)).near hb (by simp) (by omega)))
            have HV3:=hid (fun(w5:World) (hb:Near g (((wr.alloc (.cells #[.int .i64 u.k,.int .i64 u.n,.slice F u.l.length C] 25)).drew).alloc (.cells #[.int .i64 0,.int .i64 0,.slice none 0 0] 25)).heap.size (((wr.alloc (.cells #[.int .i64 u.k,.int .i64 u.n,.slice F u.l.length C] 25)).drew).alloc (.cells #[.int .i64 0,.int .i64 0,.slice none 0 0] 25)) w5)=>
              (show Bk w5 (wr.heap.size+1) 25 #[.int .i64 0,.int .i64 0,.slice none 0 0]from(show Bk (((wr.alloc (.cells #[.int .i64 u.k,.int .i64 u.n,.slice F u.l.length C] 25)).drew).alloc (.cells #[.int .i64 0,.int .i64 0,.slice none 0 0] 25)) (wr.heap.size+1) 25 #[.int .i64 0,.int .i64 0,.slice none 0 0]from Bk.last (wr.alloc (.cells #[.int .i64 u.k,.int .i64 u.n,.slice F u.l.length C] 25)) 25 #[.int .i64 0,.int .i64 0,.slice none 0 0] (by simp)).near hb (by simp) (by omega)))
            have HBB:=hid (fun(V w5:World) (hb:Near g V.heap.size V w5) (hV:Below (wr.alloc (.cells #[.int .i64 u.k,.int .i64 u.n,.slice F u.l.length C] 25)).heap.size (wr.alloc (.cells #[.int .i64 u.k,.int .i64 u.n,.slice F u.l.length C] 25)) V)=>(Near.of (g:=g) hV).trans (hb.mono hV.size));clear hst hih hnode hdep hsm hbb hu hxc BX1 IH HE HEW hroom hRES;go_upto_region 8 with fail
            go_cut [11,12]from 46 to 57 (fun s11 s12 wx=>∃gv A' cap' q',s11= .pointer (some ⟨gv,0,none⟩)∧s12= .int .i64 c∧TBox wx gv x.k x.n (.slice A' x.l.length cap')∧Near g (wr.alloc (.cells #[.int .i64 u.k,.int .i64 u.n,.slice F u.l.length C] 25)).heap.size (wr.alloc (.cells #[.int .i64 u.k,.int .i64 u.n,.slice F u.l.length C] 25)) wx∧IsTerm wx (wr.heap.size+1) wx.heap.size x A' cap'∧Bk wx g 3 #[.int .i64 q']∧RoomIs RES q')
            case first=>
              go_region_held3 (fun w'=>w'.cell? ⟨wr.heap.size,0,none⟩=some (.int .i64 u.k)∧w'.cell? ⟨wr.heap.size,1,none⟩=some (.int .i64 u.n)∧w'.cell? ⟨wr.heap.size,2,none⟩=some (.slice F u.l.length C)∧w'.cell? ⟨w.heap.size,0,none⟩=some (.int .i64 k))
                (first|exact HK.out _ (Near.of HD1.out)|exact HK.out _ (Near.of HD2.out)|exact HK.out _ (Near.of HD3.out)|exact HK.out _ hB5|exact HK.out _ (hB5.alloc hB5.size _)|exact HK.out _ (((hB5.setCell (by simp) _).setCell (by simp) _).setCell (by simp) _))
                (first
                | (go_at_call 211;refine(CB.out _).mono ?_;rintro e w2 ⟨rfl,rfl⟩)
                | (go_at_call 193
                   refine(HIH.out _ (by first|exact HD1.out|exact HD2.out|exact HD3.out)).mono ?_;rintro e w3 ⟨A',cap',q',rfl,hn3,hb3,hbq3,hrm3⟩;have hB5:=HBB.out _ _ hb3 (by first|exact HD1.out|exact HD2.out|exact HD3.out)
                   first
                   | (have hbkv:=HV2.out _ hb3
                      have hfz:∀o,w3.frozen? ⟨wr.heap.size+1,o,none⟩=false:=fun o=>hbkv.cold o;have d0:=hbkv.cell 0;have d1:=hbkv.cell 1;have d2:=hbkv.cell 2;simp at d0 d1 d2)
                   | (have hbkv:=HV3.out _ hb3
                      have hfz:∀o,w3.frozen? ⟨wr.heap.size+1,o,none⟩=false:=fun o=>hbkv.cold o;have d0:=hbkv.cell 0;have d1:=hbkv.cell 1;have d2:=hbkv.cell 2;simp at d0 d1 d2)
                   | skip))
              all_goals
                go_wp2_with fail;go_meet;case rel=>
                  first
                  | exact⟨_,A',cap',q',rfl,rfl,TBox.of (Bk.new w3 _ _),hB5.alloc hB5.size _,(hn3.wide (by simp) lrU1).late _,hbq3.alloc _,hrm3⟩
                  | exact⟨_,A',cap',q',rfl,rfl,TBox.of (((hbkv.at_ 0 (.int .i64 x.k)).at_ 1 (.int .i64 x.n)).at_ 2 (.slice A' x.l.length cap')),((hB5.setCell (by simp) _).setCell (by simp) _).setCell (by simp) _,(hn3.far3 (by simp) _ _ _).wide (by simp) (by simp[World.setCell]),((hbq3.far (a:=⟨wr.heap.size+1,0,none⟩) (by show g≠wr.heap.size+1;omega) _).far (a:=⟨wr.heap.size+1,1,none⟩) (by show g≠wr.heap.size+1;omega) _).far (a:=⟨wr.heap.size+1,2,none⟩) (by show g≠wr.heap.size+1;omega) _,hrm3⟩
            case rest=>
            obtain⟨gv,A',cap',q',rfl,rfl,htb,hbx,hnx,hbq',hrm'⟩:=hcut;have hzx:=hbx.size;simp at hzx;have HTB:=hid htb;have HNX:=hid hnx;have HBX:=hid hbx;have HBQ':=hid hbq';have HRM':=hid hrm';have hbw:=(hB.alloc hz (.cells #[.int .i64 u.k,.int .i64 u.n,.slice F u.l.length C] 25)).trans (hbx.mono (by simp<;>omega));have HBWC:=hid hbw;have hwz:=hbw.size;have K2:=(HB2.out.alloc (.cells #[.int .i64 u.k,.int .i64 u.n,.slice F u.l.length C] 25)).near hbx (by simp<;>omega) (by omega);have K1:=(HB1.out.alloc (.cells #[.int .i64 u.k,.int .i64 u.n,.slice F u.l.length C] 25)).near hbx (by simp<;>omega) (by omega);have HK1:=hid K1;have HK2:=hid K2;obtain⟨v0,v1,v2,vl⟩:=htb;clear hbx hnx hbw HD1 HD2 HD3 HV2 HV3 HBB HIH CB x0' x1' x2' hbq' hrm';by_cases h0:c=0
            · have hst:=HOK.out h0 q' HRM'.out;have t0:(c !=0)=false:=by rw[h0];rfl
              have HST:=hid hst;clear hst HOK HERR;have R1:=((HROW.out.alloc (.cells #[.int .i64 u.k,.int .i64 u.n,.slice F u.l.length C] 25)).near HBX.out (by omega) (fun b hb=>by have:=HPP.out b hb;omega)).alloc (.cells #[.int .i64 x.k,.int .i64 x.n,.slice A' x.l.length cap'] 25);have HR1:=hid R1;have HOW:=hid R1.row;have hown0:=R1.row.lt;clear R1 h0;go_wp2_with (at_builtin;refine wpList_app rfl _ _ 23 rfl (w.heap.size+2) 25 i0 (.agg #[.int .i64 0,.int .i64 0,.slice none 0 0]) 3 40 Tryz.underlying23 hi0 hz0 hz1 hz2 rfl (by decide) _ _ _ rfl HOW.out (some ⟨wc.heap.size,0,none⟩) 1 1 (cellsM (x,A',cap')) rfl (src_at _ _ _ (by simp) rfl) (cellsM_one _) ?c3 ?c4 ?c5 ?_)
              case c3=>have:=HPS.out;unfold maxLen;omega
              case c4=>have:=HPS.out;omega
              case c5=>simp;omega
              rintro v2' w3 ⟨hown3,hg3,ho3⟩;have hsz3:=hg3.size;simp at hsz3;have HRow:=hid (HR1.out.push (Pn:=fun b=>wr.heap.size+1≤b∧b<wc.heap.size) (p:=(x,A',cap')) (HNX.out.alloc lrU1 (.cells #[.int .i64 x.k,.int .i64 x.n,.slice A' x.l.length cap'] 25)) (fun b hb=>⟨by have:=hb.2;simp;omega,fun e=>by
                have h1:=HROW.out.row.lt b e;omega⟩) hown3 hg3 ho3)
              have hne:∀h,h<w.heap.size+2→some h≠(Value.slice a1 ps.length c1).ownBlock:=fun h hg e=>by
                have:=hown0 h e.symm;omega
              have B1:=hid ((HK1.out.alloc (.cells #[.int .i64 x.k,.int .i64 x.n,.slice A' x.l.length cap'] 25)).grown hg3 (hne _ (by omega)));have B2:=hid ((HK2.out.alloc (.cells #[.int .i64 x.k,.int .i64 x.n,.slice A' x.l.length cap'] 25)).grown hg3 (hne _ (by omega)));have B3:=hid ((HBQ'.out.alloc (.cells #[.int .i64 x.k,.int .i64 x.n,.slice A' x.l.length cap'] 25)).grown hg3 (hne _ (by omega)));have HB4:=hid ((HBWC.out.alloc hwz (.cells #[.int .i64 x.k,.int .i64 x.n,.slice A' x.l.length cap'] 25)).grown hg3 (by simp<;>omega) (fun g e=>by have:=hown0 g e;omega));clear hown3 hg3 ho3 hown0 hne;go_wp2_with fail;go_roundw
              case rel=>
                refine⟨i+1,ps++[(x,A',cap')],fun b=>P b∨(wr.heap.size+1≤b∧b<wc.heap.size),q',by omega,rfl,HB4.out,B1.out,B2.out,HRow.out, ?_,by have:=HPS.out;simp;omega,B3.out,HST.out.2, ?_⟩
                · intro b hb;rcases hb with hb|hb
                  · exact HPP.out b hb
                  · omega
                · rw[List.map_append];exact HST.out.1
              case measure=>simp[intOf];omega
            · have herr:=HERR.out h0;have t0:(c !=0)=true:=by simpa using h0
              have HER:=hid herr;have hfz:∀o,wc.frozen? ⟨w.heap.size+1,o,none⟩=false:=fun o=>K2.cold o;have d0:wc.cell? ⟨w.heap.size+1,0,none⟩=some (.int .i64 0):=K2.cell 0;have d1:wc.cell? ⟨w.heap.size+1,1,none⟩=some (.int .i64 0):=K2.cell 1;have d2:wc.cell? ⟨w.heap.size+1,2,none⟩=some (.slice none 0 0):=K2.cell 2;have B5:=((K2.at_ 0 (.int .i64 0)).at_ 1 (.int .i64 0)).at_ 2 (.slice none 0 0);have HS0:=hid (B5.cell 0);have HS1:=hid (B5.cell 1);have HS2:=hid (B5.cell 2);clear herr HOK HERR K2 K1 B5 h0;go_wp2_with fail;refine bodyPost_ret (v:= .tuple #[.agg #[.int .i64 0,.int .i64 0,.slice none 0 0],.int .i64 c]) (by simp[results,results193,go_sem,HS0.out,HS1.out,HS2.out]) rfl ?_;exact with_zero HER.out.1 (fun u s h=>by obtain⟨d,hd⟩:=HER.out.2;rw[hd]at h;cases h) HBWC.out (by omega) HBQ'.out (by omega)
          · obtain rfl:i=l.length:=by omega
            have HFULL:Hid (outX G (.node k n l) b r=(.node k n (ps.map (·.1)),0)∧RoomIs (witT G (.node k n l) b r) q):=hid (by
              have:=HPL.out;rw[List.take_length]at this;rw[HE.out,HEW.out,this];exact⟨rfl,fun u s h=>by injection h with h;injection h with h1 h2;exact h2.symm⟩)
            have hpar:=HROW.out.parent (lo:=w.heap.size+2) lrU1 (fun b hb=>HPP.out b hb) k n;have HPAR:=hid hpar;have hfz:∀o,wr.frozen? ⟨w.heap.size+1,o,none⟩=false:=fun o=>HB2.out.cold o;have hfz1:wr.frozen? ⟨w.heap.size,2,none⟩=false:=HB1.out.cold 2;have d0:wr.cell? ⟨w.heap.size+1,0,none⟩=some (.int .i64 0):=HB2.out.cell 0;have d1:wr.cell? ⟨w.heap.size+1,1,none⟩=some (.int .i64 0):=HB2.out.cell 1;have d2:wr.cell? ⟨w.heap.size+1,2,none⟩=some (.slice none 0 0):=HB2.out.cell 2;have f0:wr.cell? ⟨w.heap.size,0,none⟩=some (.int .i64 k):=HB1.out.cell 0;have f1:wr.cell? ⟨w.heap.size,1,none⟩=some (.int .i64 n):=HB1.out.cell 1;have f2:wr.cell? ⟨w.heap.size,2,none⟩=some (.slice A l.length cap):=HB1.out.cell 2;have B5:=(((HB2.out.far (a:=⟨w.heap.size,2,none⟩) (by simp) (.slice a1 ps.length c1)).at_ 0 (.int .i64 k)).at_ 1 (.int .i64 n)).at_ 2 (.slice a1 ps.length c1);have HS0:=hid (B5.cell 0);have HS1:=hid (B5.cell 1);have HS2:=hid (B5.cell 2);clear hpar B5;go_wp2_with fail;refine bodyPost_ret (v:= .tuple #[.agg #[.int .i64 k,.int .i64 n,.slice a1 ps.length c1],.int .i64 0]) (by simp[results,results193,go_sem,HS0.out,HS1.out,HS2.out]) rfl ?_;have:=with_give (x:= .node k n (ps.map (·.1))) (h:=w.heap.size+1) (lo:=w.heap.size+2) (A:=a1) (cap:=c1) HFULL.out.1 HFULL.out.2 (hB.setCell (p:=⟨w.heap.size,2,none⟩) lrU1 (.slice a1 ps.length c1)) (by omega) ((HPAR.out.setFar (a:=⟨w.heap.size,2,none⟩) (by simp) (.slice a1 ps.length c1)).wide lrU1 (by simp[World.setCell])) (by omega) (HBQ.out.far (a:=⟨w.heap.size,2,none⟩) (by show g≠w.heap.size;omega) (.slice a1 ps.length c1)) (by omega);have e:(TM.node k n (ps.map (·.1))).l.length=ps.length:=List.length_map _;rw[e]at this;exact this
end Go.Proofs.YtchllgkgjompgaaGreatDoor
