import Derived.Test.YtchllgkgjompgaaGreatDoorR2
import Derived.Test.YtchllgkgjompgaaGreatDoorM3
import Derived.Test.YtchllgkgjompgaaGreatDoorM4
import Derived.Test.YtchllgkgjompgaaGreatDoorR1
import Derived.Deep.RegionWith
import Derived.Deep.CutRange
import Derived.Deep.RegionHeld3
namespace Go.Proofs.YtchllgkgjompgaaGreatDoor
set_option maxHeartbeats 4000000
set_option maxRecDepth 100000
open Go.RowKit
set_option linter.unusedVariables false
open Lib(hid)
open Go.Proofs.Tryz
theorem lrM7{n:Nat}:n≤n:=Nat.le_refl n
def varT (G:Int→Int×Int) (m b:Int):Except Int TM:=if(G m).2=0 then(if(G m).1>1048576 - b then .error 2 else .ok (.node 1 ((G m).1+b) []))else .error (G m).2
mutual
def movT (G:Int→Int×Int):TM→Int→Except Int TM
 | .node k n l,b=>if k=1∧b≤n then varT G (n - b) b else
  match movM G k 0 l b with
  | .error c=> .error c
  | .ok r=> .ok (.node k n r)
def movM (G:Int→Int×Int) (k:Int) (i:Nat):List TM→Int→Except Int (List TM)
 | [],_=> .ok []
 | t::r,b=>
  match movT G t (b+bnd k i)with
  | .error c=> .error c
  | .ok u=>
   match movM G k (i+1) r b with
   | .error c=> .error c
   | .ok us=> .ok (u::us)
end
theorem movT_node (G:Int→Int×Int) (k n:Int) (l:List TM) (b:Int):movT G (.node k n l) b=if k=1∧b≤n then varT G (n - b) b else
  match movM G k 0 l b with
  | .error c=> .error c
  | .ok r=> .ok (.node k n r):=by rw[movT]
theorem movM_nil (G:Int→Int×Int) (k:Int) (i:Nat) (b:Int):movM G k i [] b= .ok []:=by rw[movM]
theorem movM_cons (G:Int→Int×Int) (k:Int) (i:Nat) (t:TM) (r:List TM) (b:Int):movM G k i (t::r) b=
  match movT G t (b+bnd k i)with
  | .error c=> .error c
  | .ok u=>
   match movM G k (i+1) r b with
   | .error c=> .error c
   | .ok us=> .ok (u::us):=by rw[movM]
theorem movM_append (G:Int→Int×Int):∀(l r:List TM) (k:Int) (i:Nat) (b:Int),movM G k i (l++r) b=
  match movM G k i l b with
  | .error c=> .error c
  | .ok us=>
   match movM G k (i+l.length) r b with
   | .error c=> .error c
   | .ok vs=> .ok (us++vs)
 | [],r,k,i,b=>by
  rw[List.nil_append,movM_nil];simp only[List.length_nil,Nat.add_zero];cases movM G k i r b<;>rfl
 | t::l,r,k,i,b=>by
  rw[List.cons_append,movM_cons,movM_cons,movM_append G l r];have e:i+1+l.length=i+(t::l).length:=by simp;omega
  rw[e];cases movT G t (b+bnd k i)with
  | error c=>rfl
  | ok u=>
   cases movM G k (i+1) l b with
   | error c=>rfl
   | ok us=>
    cases movM G k (i+(t::l).length) r b<;>rfl
theorem movM_take (G:Int→Int×Int) (k b:Int) {l:List TM} {i:Nat} (h:i<l.length) {us:List TM} (hu:movM G k 0 (l.take i) b= .ok us):movM G k 0 (l.take (i+1)) b=
  match movT G l[i] (b+bnd k i)with
  | .error c=> .error c
  | .ok u=> .ok (us++[u]):=by
 rw[take_snocM h,movM_append,hu];have e:0+(l.take i).length=i:=by simp;omega
 rw[e,movM_cons,movM_nil];cases movT G l[i] (b+bnd k i)<;>rfl
theorem movM_err (G:Int→Int×Int) (k b:Int) {l:List TM} {i:Nat} {c:Int} (h:movM G k 0 (l.take i) b= .error c):movM G k 0 l b= .error c:=by
 have:=movM_append G (l.take i) (l.drop i) k 0 b;rw[List.take_append_drop,h]at this;exact this
def resU:Except Int TM→TM×Int
 | .ok u=>(u,0)
 | .error c=>(.node 0 0 [],c)
theorem resU_ok (u:TM):resU (.ok u)=(u,0):=rfl
theorem resU_error (c:Int):resU (.error c)=(.node 0 0 [],c):=rfl
theorem varT_ok {G:Int→Int×Int} {m b x:Int} (h:G m=(x,0)):varT G m b=if x>1048576 - b then .error 2 else .ok (.node 1 (x+b) []):=by
 unfold varT;rw[h,if_pos rfl]
theorem varT_err {G:Int→Int×Int} {m b x c:Int} (h:G m=(x,c)) (hc:c≠0):varT G m b= .error c:=by
 unfold varT;rw[h,if_neg hc]
theorem varT_ne (G:Int→Int×Int) (m b c:Int) (h:varT G m b= .error c):c≠0:=by
 unfold varT at h;split at h
 ·split at h
  ·injection h with h;omega
  ·cases h
 ·injection h with h;subst h;assumption
theorem movT_ne (G:Int→Int×Int):∀(t:TM) (b c:Int),movT G t b= .error c→c≠0:=by
 intro t;induction t using TM.ind with
 | h k n l ih=>
  intro b c h;rw[movT_node]at h;split at h
  ·exact varT_ne _ _ _ _ h
  ·have hL:∀(r:List TM),(∀u∈r,u∈l)→∀(i:Nat) (c:Int),movM G k i r b= .error c→c≠0:=by
    intro r;induction r with
    | nil=>intro _ i c h;rw[movM_nil]at h;cases h
    | cons u r ihr=>
     intro hm i c h;rw[movM_cons]at h;cases e:movT G u (b+bnd k i)with
     | error d=>rw[e]at h;injection h with h;subst h;exact ih u (hm u List.mem_cons_self) _ _ e
     | ok v=>
      rw[e]at h;cases e2:movM G k (i+1) r b with
      | error d=>rw[e2]at h;injection h with h;subst h;exact ihr (fun v hv=>hm v (List.mem_cons_of_mem _ hv)) _ _ e2
      | ok vs=>rw[e2]at h;cases h
   cases e:movM G k 0 l b with
   | error d=>rw[e]at h;injection h with h;subst h;exact hL l (fun _ h=>h) 0 d e
   | ok vs=>rw[e]at h;cases h
def moveT (y:Int):TM→Int→TM
 | .node k n l,m=>if k=1 then(if n<m then .node k n l else .node 1 (n+y) [])else .node k n (moveM y k 0 l m)
where moveM (y k:Int) (i:Nat):List TM→Int→List TM
 | [],_=>[]
 | t::r,m=>moveT y t (m+bndR k i)::moveM y k (i+1) r m
abbrev moveM:=moveT.moveM
theorem moveT_node (y k n:Int) (l:List TM) (m:Int):moveT y (.node k n l) m=if k=1 then(if n<m then .node k n l else .node 1 (n+y) [])else .node k n (moveM y k 0 l m):=by rw[moveT]
theorem moveM_nil (y k:Int) (i:Nat) (m:Int):moveM y k i [] m=[]:=by unfold moveM;rw[moveT.moveM]
theorem moveM_cons (y k:Int) (i:Nat) (t:TM) (r:List TM) (m:Int):moveM y k i (t::r) m=moveT y t (m+bndR k i)::moveM y k (i+1) r m:=by unfold moveM;rw[moveT.moveM]
theorem bnd_good {k:Int} {i m:Nat} (h1:1≤k) (h2:k≤8) (h:i+m=manyM k) (hm:0<m):bnd k i=bndR k i:=by
 unfold bnd bndR;unfold manyM at h;by_cases hi:i=1
 ·subst hi;by_cases h3:k=3
  ·subst h3;rfl
  by_cases h4:k=4
  ·subst h4;rfl
  by_cases h5:k=5
  ·subst h5;rfl
  rw[if_neg (by omega)]at h;split at h<;>omega
 ·rw[if_neg (by omega),if_neg (by omega)]
theorem leaf_good {n:Int}:tgoodB (.node 1 n [])=(decide (0≤n) && decide (n≤1048576)):=by
 rw[tgoodB_node,tgoodL_all];unfold ttopB manyM mostM;simp
theorem var_nil {k n:Int} {l:List TM} (h:tgoodB (.node k n l)=true) (hk:k=1):l=[]:=by
 rw[tgoodB_node,Bool.and_eq_true]at h;have:=(ttop_facts h.1).2.2.1;subst hk;unfold manyM at this;simp at this;exact this
theorem good_parts {k n:Int} {l:List TM} (h:tgoodB (.node k n l)=true):1≤k∧k≤8∧l.length=manyM k∧0≤n∧n≤1048576∧ttopB k n l=true∧(∀u∈l,tgoodB u=true):=by
 have h0:=good_num h;rw[tgoodB_node,Bool.and_eq_true]at h;obtain⟨h1,h2,h3,h4,h5,h6⟩:=ttop_facts h.1;refine⟨h1,h2,h3,h4,h0.2,h.1,fun u hu=> ?_⟩;have:=h.2;rw[tgoodL_all,List.all_eq_true]at this;exact this u hu
theorem ttop_like {k n:Int} {l r:List TM} (h:ttopB k n l=true) (hl:r.length=l.length) (hf:r.head?.map TM.k=l.head?.map TM.k):ttopB k n r=true:=by
 obtain⟨h1,h2,h3,h4,h5,h6⟩:=ttop_facts h;refine ttop_mk h1 h2 (hl.trans h3) h4 h5 (fun e=> ?_);have:=h6 e;unfold firstM at this⊢;cases r with
 | nil=>rfl
 | cons u r=>
  cases l with
  | nil=>simp at hl
  | cons v l=>
   simp at hf;show decide (u.k=2)=true
   rw[hf];exact this
theorem moveT_k (y:Int) (t:TM) (m:Int):(moveT y t m).k=t.k:=by
 obtain⟨k,n,l⟩:=t;rw[moveT_node];split
 ·split
  ·rfl
  ·rename_i h _;exact h.symm
 ·rfl
theorem moveM_len (y k:Int) (m:Int):∀(l:List TM) (i:Nat),(moveM y k i l m).length=l.length
 | [],i=>by rw[moveM_nil]
 | t::l,i=>by rw[moveM_cons,List.length_cons,moveM_len y k m l,List.length_cons]
theorem moveM_head (y k:Int) (m:Int) (l:List TM) (i:Nat):(moveM y k i l m).head?.map TM.k=l.head?.map TM.k:=by
 cases l with
 | nil=>rw[moveM_nil]
 | cons t l=>rw[moveM_cons];simp[moveT_k]
def liftG (k n m:Int):Int×Int:=if n≤m then(m+k,0)else(m,0)
theorem movM_by {G:Int→Int×Int} {k b:Int} {l:List TM} (F:TM→Int→Except Int TM) (c:Int) (hx1:1≤k) (hx2:k≤8)
    (hst:∀u∈l,∀d,0≤d→movT G u (b+d)=F u d) (P:TM→Int→Bool) (M:TM→Int→TM)
    (hF:∀u d,F u d=if P u d then .ok (M u d)else .error c):
    ∀(r:List TM) (i:Nat),(∀u∈r,u∈l)→i+r.length=manyM k→movM G k i r b=if(r.zipIdx i).all (fun p=>P p.1 (bndR k p.2))then .ok ((r.zipIdx i).map (fun p=>M p.1 (bndR k p.2)))else .error c
  | [],i,_,_=>by rw[movM_nil];rfl
  | u::r,i,hm,hl=>by
    rw[movM_cons,bnd_good hx1 hx2 (m:=(u::r).length) hl (by simp),hst u (hm u List.mem_cons_self) _ (bndR_01 k i).1,hF,movM_by F c hx1 hx2 hst P M hF r (i+1) (fun v hv=>hm v (List.mem_cons_of_mem _ hv)) (by simp at hl;omega)];rw[List.zipIdx_cons,List.all_cons,List.map_cons];cases P u (bndR k i)with
    | false=>rfl
    | true=>
      cases (r.zipIdx (i+1)).all (fun p=>P p.1 (bndR k p.2))with
      | false=>rfl
      | true=>rfl
theorem moveM_zip (y k m:Int):∀(l:List TM) (i:Nat),moveM y k i l m=(l.zipIdx i).map (fun p=>moveT y p.1 (m+bndR k p.2))
 | [],i=>by rw[moveM_nil];rfl
 | t::l,i=>by rw[moveM_cons,moveM_zip y k m l,List.zipIdx_cons,List.map_cons]
theorem all_map {α β:Type} (f:β→Bool) (g:α→β) (l:List α):(l.map g).all f=l.all (fun a=>f (g a)):=by
 induction l with
 | nil=>rfl
 | cons a l ih=>rw[List.map_cons,List.all_cons,List.all_cons,ih]
theorem good_move {y k n m:Int} {l:List TM} (hk:k≠1) (h:tgoodB (.node k n l)=true):tgoodB (moveT y (.node k n l) m)=(l.zipIdx 0).all (fun p=>tgoodB (moveT y p.1 (m+bndR k p.2))):=by
 rw[moveT_node,if_neg hk,tgoodB_node,ttop_like (good_parts h).2.2.2.2.2.1 (moveM_len _ _ _ _ _) (moveM_head _ _ _ _ _),Bool.true_and,tgoodL_all,moveM_zip,all_map]
theorem lift_eq (k n:Int) (hk:0≤k) (hn:0≤n):∀(t:TM) (b:Int),0≤b→tgoodB t=true→movT (liftG k n) t b=if tgoodB (moveT k t (n+b))then .ok (moveT k t (n+b))else .error 2:=by
  intro t;induction t using TM.ind with
  | h kk N l ih=>
    intro b hb h;obtain⟨h1,h2,h3,h4,h5,h6,h7⟩:=good_parts h;by_cases h0:kk=1
    · obtain rfl:=var_nil h h0;subst h0;rw[movT_node,moveT_node,if_pos rfl,movM_nil];by_cases hb2:b≤N
      · rw[if_pos ⟨rfl,hb2⟩];by_cases hm:n≤N - b
        · rw[varT_ok (show liftG k n (N - b)=(N - b+k,0)by unfold liftG;rw[if_pos hm]),if_neg (show ¬ N<n+b by omega),leaf_good];by_cases hx:N - b+k>1048576 - b
          · rw[if_pos hx,decide_eq_false (show ¬ N+k≤1048576 by omega),Bool.and_false];rfl
          · rw[if_neg hx,decide_eq_true (show N+k≤1048576 by omega),decide_eq_true (show 0≤N+k by omega)];have e:N - b+k+b=N+k:=by omega
            rw[e];rfl
        · rw[varT_ok (show liftG k n (N - b)=(N - b,0)by unfold liftG;rw[if_neg hm]),if_pos (show N<n+b by omega),h,if_neg (show ¬ N - b>1048576 - b by omega)];have e:N - b+b=N:=by omega
          rw[e];rfl
      · rw[if_neg (fun e=>hb2 e.2),if_pos (show N<n+b by omega),h];rfl
    · rw[good_move h0 h,movT_node,if_neg (fun e=>h0 e.1),movM_by (fun u d=>if tgoodB (moveT k u (n+b+d))then .ok (moveT k u (n+b+d))else .error 2) 2 h1 h2
        (fun u hu d hd=>by rw[ih u hu (b+d) (by omega) (h7 u hu),Int.add_assoc]) _ _ (fun _ _=>rfl) l 0 (fun _ h=>h) (by omega)]
      rw[moveT_node,if_neg h0,moveM_zip];cases (l.zipIdx 0).all (fun p=>tgoodB (moveT k p.1 (n+b+bndR kk p.2)))<;>rfl
def GivesT (p:TM×Int) (w:World) (e:Ending) (w':World):Prop:=
 ∃A cap,e= .returned (.tuple #[termV p.1 A cap,.int .i64 p.2])∧IsTerm w' w.heap.size w'.heap.size p.1 A cap∧Below w.heap.size w w'
theorem cl_lift (a1 a2:Addr) (m k n:Int) (w:World) (h1:w.cell? a1=some (.int .i64 n)) (h2:w.cell? a2=some (.int .i64 k)) (hm:0≤m∧m≤1048576) (hn:0≤n∧n≤1048576) (hk:0≤k∧k≤1048576):
  Calls prog 215 #[.int .i64 m,.pointer (some a1),.pointer (some a2)] w fun e w'=>e= .returned (.tuple #[.int .i64 (liftG k n m).1,.int .i64 (liftG k n m).2])∧Below w.heap.size w w':=by
 by_cases hc:n≤m
 ·have e:liftG k n m=(m+k,0):=by unfold liftG;rw[if_pos hc]
  have hw:IntKind.i64.wrap (m+k)=m+k:=IntWalk.i64_in _ (by omega);rw[e];clear e;go_enter func215,ntmps215;go_wp2_with fail;go_ret2;exact⟨rfl,Below.refl _ _⟩
 ·have e:liftG k n m=(m,0):=by unfold liftG;rw[if_neg hc]
  rw[e];clear e;go_enter func215,ntmps215;go_wp2_with fail;go_ret2;exact⟨rfl,Below.refl _ _⟩
theorem binders_any (k:Int) (i:Nat) (w:World):Calls prog 224 #[.int .i64 k,.int .i64 (i:Int)] w fun e w'=>e= .returned (.int .i64 (bnd k i))∧w'=w:=by
 by_cases hi:i=1
 ·have t1:((i:Int)==1)=true:=by rw[hi];rfl
  by_cases h3:k=3
  ·have t2:(k==3)=true:=by simpa using h3
   have e:bnd k i=1:=by unfold bnd;rw[if_pos ⟨hi,.inl h3⟩]
   rw[e];clear hi h3 e;go_enter func224,ntmps224;go_wp2_with fail;go_ret;exact⟨rfl,rfl⟩
  ·have t2:(k==3)=false:=by simpa using h3
   by_cases h4:k=4
   ·have t3:(k==4)=true:=by simpa using h4
    have e:bnd k i=1:=by unfold bnd;rw[if_pos ⟨hi,.inr h4⟩]
    rw[e];clear hi h3 h4 e;go_enter func224,ntmps224;go_wp2_with fail;go_ret;exact⟨rfl,rfl⟩
   ·have t3:(k==4)=false:=by simpa using h4
    have e:bnd k i=0:=by unfold bnd;rw[if_neg (fun h=>h.2.elim h3 h4)]
    rw[e];clear hi h3 h4 e;go_enter func224,ntmps224;go_wp2_with fail;go_ret;exact⟨rfl,rfl⟩
 ·have t1:((i:Int)==1)=false:=by simp;omega
  have e:bnd k i=0:=by unfold bnd;rw[if_neg (fun h=>hi h.1)]
  rw[e];clear hi e;go_enter func224,ntmps224;go_wp2_with fail;go_ret;exact⟨rfl,rfl⟩
theorem GivesT.zero {w w':World} {c:Int} (hb:Below w.heap.size w w'):GivesT (.node 0 0 [],c) w (.returned (.tuple #[.agg #[.int .i64 0,.int .i64 0,.slice none 0 0],.int .i64 c])) w':=
 ⟨none,0,rfl,leaf_in _ _ 0 0,hb⟩
theorem GivesT.leaf {w w':World} {n:Int} (hb:Below w.heap.size w w'):GivesT (.node 1 n [],0) w (.returned (.tuple #[.agg #[.int .i64 1,.int .i64 n,.slice none 0 0],.int .i64 0])) w':=
 ⟨none,0,rfl,leaf_in _ _ 1 n,hb⟩
theorem movedVar_lift (a0 a1:Addr) (G:Int→Int×Int) (m b:Int) (w:World) (hb0:0≤b) (hb1:b≤200) (hx: -2000000≤(G m).1∧(G m).1≤4000000)
    (HC:∀o,Calls prog 215 #[.int .i64 m,.pointer (some a0),.pointer (some a1)] (w.alloc o) fun e w'=>e= .returned (.tuple #[.int .i64 (G m).1,.int .i64 (G m).2])∧Below (w.alloc o).heap.size (w.alloc o) w'):
    Calls prog 223 #[.int .i64 m,.int .i64 b,.func (.func 215) #[] #[.pointer (some a0),.pointer (some a1)]] w (GivesT (resU (varT G m b)) w):=by
  obtain⟨x,hxx⟩:∃x,(G m).1=x:=⟨_,rfl⟩;obtain⟨c,hcc⟩:∃c,(G m).2=c:=⟨_,rfl⟩;have hG:G m=(x,c):=by rw[←hxx,←hcc]
  rw[hxx]at hx;rw[hxx,hcc]at HC;have HC:=hid HC;have CV:=hid (fun n (W:World)=>(mk_var n W).mono fun e w' (h:_∧_)=>And.intro h.1 (show Below W.heap.size W w' from by rw[h.2];exact(Below.refl _ _).alloc lrM7 _));have hw1:IntKind.i64.wrap (1048576 - b)=1048576 - b:=IntWalk.i64_in _ (by omega);have hw2:IntKind.i64.wrap (x+b)=x+b:=IntWalk.i64_in _ (by omega);have HW1:=hid (fun o1=>((Below.refl w.heap.size w).alloc lrM7 o1));have RES:Hid (resU (varT G m b)=if c=0 then(if x>1048576 - b then(.node 0 0 [],2)else(.node 1 (x+b) [],0))else(.node 0 0 [],c)):=hid (by
    by_cases h0:c=0
    · subst h0;rw[varT_ok hG,if_pos rfl];split<;>rfl
    · rw[varT_err hG h0,if_neg h0];rfl)
  obtain⟨RR,hRR⟩:∃RR,resU (varT G m b)=RR:=⟨_,rfl⟩;rw[hRR]at RES⊢;clear hxx hcc hG hRR hb0 hb1;by_cases h0:c=0
  · have t0:(c !=0)=false:=by rw[h0];rfl
    by_cases h1:x>1048576 - b
    · have RES2:=hid (RES.out.trans ((if_pos h0).trans (if_pos h1)));have t1:decide (1048576 - b<x)=true:=decide_eq_true h1;clear h0 h1 RES hx;go_enter func223,ntmps223;go_wp2_with fail;refine(HC.out _).mono ?_;rintro e w1 ⟨rfl,hb1⟩;have hz1:=hb1.size;simp at hz1;have BK:=(Bk.new w 25 #[.int .i64 0,.int .i64 0,.slice none 0 0]).below hb1 (by simp);have HBK:=hid BK;have HB1:=hid ((HW1.out _).trans (hb1.mono (by simp)));have hfz:∀o,w1.frozen? ⟨w.heap.size,o,none⟩=false:=fun o=>BK.cold o;have d0:w1.cell? ⟨w.heap.size,0,none⟩=some (.int .i64 0):=BK.cell 0;have d1:w1.cell? ⟨w.heap.size,1,none⟩=some (.int .i64 0):=BK.cell 1;have d2:w1.cell? ⟨w.heap.size,2,none⟩=some (.slice none 0 0):=BK.cell 2;have B5:=((HBK.out.at_ 0 (.int .i64 0)).at_ 1 (.int .i64 0)).at_ 2 (.slice none 0 0);have HS0:=hid (B5.cell 0);have HS1:=hid (B5.cell 1);have HS2:=hid (B5.cell 2);clear B5 BK hb1;go_wp2_with fail;refine bodyPost_ret (v:= .tuple #[.agg #[.int .i64 0,.int .i64 0,.slice none 0 0],.int .i64 2]) (by simp[results,results223,go_sem,HS0.out,HS1.out,HS2.out]) rfl ?_;rw[RES2.out];exact GivesT.zero (((HB1.out.setCell (by simp) _).setCell (by simp) _).setCell (by simp) _)
    · have RES2:=hid (RES.out.trans ((if_pos h0).trans (if_neg h1)));have t1:decide (1048576 - b<x)=false:=decide_eq_false h1;clear h0 h1 RES hx;go_enter func223,ntmps223;go_wp2_with fail;refine(HC.out _).mono ?_;rintro e w1 ⟨rfl,hb1⟩;have hz1:=hb1.size;simp at hz1;have BK:=(Bk.new w 25 #[.int .i64 0,.int .i64 0,.slice none 0 0]).below hb1 (by simp);have HBK:=hid BK;have HB1:=hid ((HW1.out _).trans (hb1.mono (by simp)));have hfz:∀o,w1.frozen? ⟨w.heap.size,o,none⟩=false:=fun o=>BK.cold o;have d0:w1.cell? ⟨w.heap.size,0,none⟩=some (.int .i64 0):=BK.cell 0;have d1:w1.cell? ⟨w.heap.size,1,none⟩=some (.int .i64 0):=BK.cell 1;have d2:w1.cell? ⟨w.heap.size,2,none⟩=some (.slice none 0 0):=BK.cell 2;clear BK hb1 hfz d0 d1 d2;go_wp2_with fail;refine(CV.out _ _).mono ?_;rintro e w2 ⟨rfl,hb2⟩;have hz2:=hb2.size;have HW2:=hid (HB1.out.trans (hb2.mono HB1.out.size));have BK2:=HBK.out.below hb2 (by omega);have B5:=((BK2.at_ 0 (.int .i64 1)).at_ 1 (.int .i64 (x+b))).at_ 2 (.slice none 0 0);have HS0:=hid (B5.cell 0);have HS1:=hid (B5.cell 1);have HS2:=hid (B5.cell 2);have hfz2:∀o,w2.frozen? ⟨w.heap.size,o,none⟩=false:=fun o=>BK2.cold o;have d0:w2.cell? ⟨w.heap.size,0,none⟩=some (.int .i64 0):=BK2.cell 0;have d1:w2.cell? ⟨w.heap.size,1,none⟩=some (.int .i64 0):=BK2.cell 1;have d2:w2.cell? ⟨w.heap.size,2,none⟩=some (.slice none 0 0):=BK2.cell 2;clear B5 BK2 hb2;go_wp2_with fail;refine bodyPost_ret (v:= .tuple #[.agg #[.int .i64 1,.int .i64 (x+b),.slice none 0 0],.int .i64 0]) (by simp[results,results223,go_sem,HS0.out,HS1.out,HS2.out]) rfl ?_;rw[RES2.out];exact GivesT.leaf (((HW2.out.setCell (by simp) _).setCell (by simp) _).setCell (by simp) _)
  · have RES2:=hid (RES.out.trans (if_neg h0));have t0:(c !=0)=true:=by simpa using h0
    clear h0 RES hx;go_enter func223,ntmps223;go_wp2_with fail;refine(HC.out _).mono ?_;rintro e w1 ⟨rfl,hb1⟩;have hz1:=hb1.size;simp at hz1;have BK:=(Bk.new w 25 #[.int .i64 0,.int .i64 0,.slice none 0 0]).below hb1 (by simp);have HBK:=hid BK;have HB1:=hid ((HW1.out _).trans (hb1.mono (by simp)));have hfz:∀o,w1.frozen? ⟨w.heap.size,o,none⟩=false:=fun o=>BK.cold o;have d0:w1.cell? ⟨w.heap.size,0,none⟩=some (.int .i64 0):=BK.cell 0;have d1:w1.cell? ⟨w.heap.size,1,none⟩=some (.int .i64 0):=BK.cell 1;have d2:w1.cell? ⟨w.heap.size,2,none⟩=some (.slice none 0 0):=BK.cell 2;have B5:=((HBK.out.at_ 0 (.int .i64 0)).at_ 1 (.int .i64 0)).at_ 2 (.slice none 0 0);have HS0:=hid (B5.cell 0);have HS1:=hid (B5.cell 1);have HS2:=hid (B5.cell 2);clear B5 BK hb1;go_wp2_with fail;refine bodyPost_ret (v:= .tuple #[.agg #[.int .i64 0,.int .i64 0,.slice none 0 0],.int .i64 c]) (by simp[results,results223,go_sem,HS0.out,HS1.out,HS2.out]) rfl ?_;rw[RES2.out];exact GivesT.zero (((HB1.out.setCell (by simp) _).setCell (by simp) _).setCell (by simp) _)
theorem IsTerm.late {w:World} {lo:Nat} {t:TM} {A:Option Addr} {cap:Nat} (h:IsTerm w lo w.heap.size t A cap) (o:Obj):IsTerm (w.alloc o) lo (w.alloc o).heap.size t A cap:=
  (h.alloc lrM7 o).wide lrM7 (by simp)
theorem IsTerm.far3 {w:World} {lo hi:Nat} {t:TM} {A:Option Addr} {cap g:Nat} (h:IsTerm w lo hi t A cap) (hg:g<lo) (v0 v1 v2:Value):
  IsTerm (((w.setCell ⟨g,0,none⟩ v0).setCell ⟨g,1,none⟩ v1).setCell ⟨g,2,none⟩ v2) lo hi t A cap:=((h.setFar hg v0).setFar hg v1).setFar hg v2
def VarCalls (fv:Value) (G:Int→Int×Int) (w0:World):Prop:=
 ∀(m b:Int) (V:World),Below w0.heap.size w0 V→0≤m→m≤1048576→0≤b→b≤200→Calls prog 223 #[.int .i64 m,.int .i64 b,fv] V (GivesT (resU (varT G m b)) V)
def MovedRel (G:Int→Int×Int) (w:World) (k n b:Int) (l:List TM) (A:Option Addr) (cap:Nat) (nv iv:Value) (wr:World):Prop:=
 ∃(i:Nat) (ps:List (TM×Option Addr×Nat)) (P:Nat→Prop),i≤l.length∧iv= .int .i64 i∧Below w.heap.size w wr∧
  Bk wr w.heap.size 25 #[.int .i64 k,.int .i64 n,.slice A l.length cap]∧Bk wr (w.heap.size+1) 25 #[.int .i64 0,.int .i64 0,.slice none 0 0]∧
  TermRow wr (w.heap.size+2) 25 nv ps P∧(∀b,P b→w.heap.size+2≤b)∧ps.length=i∧movM G k 0 (l.take i) b= .ok (ps.map (·.1))
theorem moved_any (fv:Value) (G:Int→Int×Int) (w0:World) (HV0:VarCalls fv G w0):
    ∀(t:TM) (b:Int) (lo hi:Nat) (A:Option Addr) (cap:Nat) (w:World),IsTerm w lo hi t A cap→hi≤w.heap.size→Below w0.heap.size w0 w→tgoodB t=true→t.size≤8192→0≤b→b+t.depth≤200→
    Calls prog 214 #[termV t A cap,.int .i64 b,fv] w (GivesT (resU (movT G t b)) w):=by
  have HV:=hid HV0;clear HV0;intro t;induction t using TM.ind with
  | h k n l ih=>
    intro b lo hi A cap w h hhi hw0 hg hsz hb0 hb1;obtain⟨i0,hi0,hz0,hz1,hz2⟩:=info_parts infoM;obtain⟨hl,hm⟩:=h.bounds;obtain⟨g1,g2,g3,g4,g5,g6,g7⟩:=good_parts hg;rw[tsize_node]at hsz;rw[tdepth_node]at hb1;have hll:=sizeM_len l;have hl9:l.length≤8192:=by omega
    have hb2:b≤199:=by omega
    have HW0:=hid (fun V (hV:Below w.heap.size w V)=>hw0.trans (hV.mono hw0.size));have HN:=hid h.sub;by_cases hvar:k=1∧b≤n
    · have e1:(k==1)=true:=by rw[hvar.1];rfl
      have e2:decide (n≥b)=true:=decide_eq_true hvar.2;have hw1:IntKind.i64.wrap (n - b)=n - b:=IntWalk.i64_in _ (by omega);have HC:=hid (fun V (hV:Below w.heap.size w V)=>HV.out (n - b) b V (HW0.out V hV) (by omega) (by omega) hb0 (by omega));have HE:=hid (show movT G (.node k n l) b=varT G (n - b) b by rw[movT_node,if_pos hvar]);rw[HE.out];have HW1:=hid (fun o1 o2=>((Below.refl w.heap.size w).alloc lrM7 o1).alloc (by simp) o2);obtain⟨RR,hRR⟩:∃RR,resU (varT G (n - b) b)=RR:=⟨_,rfl⟩;rw[hRR]at HC⊢;unfold maxLen at hm;clear ih h hvar HE hRR g1 g2 g3 g4 g5 g6 g7 hg hsz hb1 hll hl9 HN hw0 hb2;rw[termV_node];go_enter func214,ntmps214;go_wp2_with fail;refine(HC.out _ (HW1.out _ _)).mono ?_;rintro e w1 ⟨A',cap',rfl,hn1,hb1⟩;have hz1:=hb1.size;simp at hz1;have BK:=(Bk.last (w.alloc (.cells #[.int .i64 k,.int .i64 n,.slice A l.length cap] 25)) 25 #[.int .i64 0,.int .i64 0,.slice none 0 0] (g:=w.heap.size+1) (by simp)).below hb1 (by simp);have HB1:=hid ((HW1.out _ _).trans (hb1.mono (by simp;omega)));have hfz:∀o,w1.frozen? ⟨w.heap.size+1,o,none⟩=false:=fun o=>BK.cold o;have d0:w1.cell? ⟨w.heap.size+1,0,none⟩=some (.int .i64 0):=BK.cell 0;have d1:w1.cell? ⟨w.heap.size+1,1,none⟩=some (.int .i64 0):=BK.cell 1;have d2:w1.cell? ⟨w.heap.size+1,2,none⟩=some (.slice none 0 0):=BK.cell 2;rw[termV];have B5:=((BK.at_ 0 (.int .i64 RR.1.k)).at_ 1 (.int .i64 RR.1.n)).at_ 2 (.slice A' RR.1.l.length cap');have HS0:=hid (B5.cell 0);have HS1:=hid (B5.cell 1);have HS2:=hid (B5.cell 2);simp at hn1;have HN1:=hid hn1;clear B5 BK hb1 hn1;go_wp2_with fail;refine bodyPost_ret (v:= .tuple #[.agg #[.int .i64 RR.1.k,.int .i64 RR.1.n,.slice A' RR.1.l.length cap'],.int .i64 RR.2]) (by simp[results,results214,go_sem,HS0.out,HS1.out,HS2.out]) rfl ?_;refine⟨A',cap',rfl,((HN1.out.far3 (by omega) _ _ _).wide (by omega) (by simp[World.setCell])), ?_⟩;exact((HB1.out.setCell (by simp) _).setCell (by simp) _).setCell (by simp) _
    · have IH:=hid ih;have HE:=hid (show movT G (.node k n l) b=(match movM G k 0 l b with| .error c=> .error c| .ok r=> .ok (.node k n r))by rw[movT_node,if_neg hvar];first|done|(cases movM G k 0 l b<;>rfl));have HFACT:Hid ((∀u∈l,tgoodB u=true)∧sizeM l≤8192∧b+depthM l≤199):=hid ⟨g7,by omega,by omega⟩;have hlen2:l.length≤2:=by have:=manyM_le k;omega
      have HSKIP:Hid (((k==1)=true∧decide (n≥b)=false)∨(k==1)=false):=hid (by
        by_cases h1:k=1
        · exact .inl ⟨by rw[h1];rfl,decide_eq_false (fun h2=>hvar ⟨h1,h2⟩)⟩
        · exact .inr (by simpa using h1))
      unfold maxLen at hm;clear ih h hvar g1 g2 g3 g4 g5 g6 g7 hg hsz hb1 hll hw0;rw[termV_node];go_enter func214,ntmps214;rcases HSKIP.out with ⟨e1,e2⟩|e1
      all_goals
        go_wp2_with fail;refine((growM_any l.length hl9 _)).mono ?_;rintro e w1 ⟨v0,rfl,ho0,hbx⟩;obtain⟨a0,cc0,rfl⟩:=own_sliceM ho0;have hz0':=hbx.size;simp at hz0';have hBK1:Bk w1 w.heap.size 25 #[.int .i64 k,.int .i64 n,.slice A l.length cap]:=((Bk.new w 25 _).alloc _).below hbx (by simp;omega);have hBK2:Bk w1 (w.heap.size+1) 25 #[.int .i64 0,.int .i64 0,.slice none 0 0]:=(Bk.last (w.alloc (.cells #[.int .i64 k,.int .i64 n,.slice A l.length cap] 25)) 25 #[.int .i64 0,.int .i64 0,.slice none 0 0] (by simp)).below hbx (by simp);have hB0:=(((Below.refl w.heap.size w).alloc lrM7 (.cells #[.int .i64 k,.int .i64 n,.slice A l.length cap] 25)).alloc (by simp) (.cells #[.int .i64 0,.int .i64 0,.slice none 0 0] 25)).trans (hbx.mono (by simp;omega));have y0:w1.cell? ⟨w.heap.size,2,none⟩=some (.slice A l.length cap):=hBK1.cell 2;have hl0:w.heap.size<w1.heap.size:=by omega
        have HO0:=hid ho0;have HBK1:=hid hBK1;have HBK2:=hid hBK2;have HB0:=hid hB0;clear ho0 hBK1 hBK2 hB0 hbx;go_wp2_with fail;go_loopw [8,38] (MovedRel G w k n b l A cap) (fun _ iv _=>l.length - (intOf iv).toNat)
        case atStart=>
          refine⟨0,[],fun _=>False,Nat.zero_le _,rfl,HB0.out,HBK1.out,HBK2.out,⟨?_,fun _ h=>h.elim,fun _ h=>by cases h⟩,fun _ h=>h.elim,rfl,by rw[List.take_zero,movM_nil];rfl⟩;have h:=HO0.out;refine⟨h.1, ?_⟩;rcases h.2 with h1|⟨g,cp,cur,h1,h2,h3⟩
          · exact .inl h1
          · exact .inr ⟨g,cp,cur,h1,by simp at h2;omega,h3⟩
        case round=>
          obtain⟨i,ps,P,hi1,rfl,hB,b1,b2,hrow,hP,hps,hpl⟩:=hrel;have hz:=hB.size;have hlt2:=b2.lt;obtain⟨a1,c1,rfl⟩:=own_sliceM hrow.row;have HPS:=hid hps;have HB1:=hid b1;have HB2:=hid b2;have HROW:=hid hrow;have HPP:=hid hP;have HPL:=hid hpl;clear b1 b2 hrow hP hpl hps;by_cases hil:i<l.length
          · obtain⟨bk,o,F,C,hA,hb1,hb2,hx,hnode⟩:=(HN.out i hil).kept hB hhi;subst hA;obtain⟨x0',x1',x2'⟩:=hx;have hi1':(i:Int)<(l.length:Int):=by omega
            have hb01:=bnd_01 k i;have hst:=movM_take G k b hil HPL.out;have hdep:l[i].depth≤depthM l:=by
              have h1:=depthM_append (l.take (i+1)) (l.drop (i+1));rw[List.take_append_drop,depthM_snoc hil]at h1;omega
            have hsm:l[i].size≤8192:=by have h1:=tsize_mem (List.getElem_mem hil);have h2:=HFACT.out.2.1;omega
            have hih:=fun V (hV:Below w.heap.size w V) h1 h2=>IH.out (l[i]'hil) (List.getElem_mem hil) (b+bnd k i) lo hi F C V h1 h2 (HW0.out V hV) (HFACT.out.1 _ (List.getElem_mem hil)) hsm (by omega) (by have:=HFACT.out.2.2;omega);obtain⟨bb,hbb⟩:∃bb,bnd k i=bb:=⟨_,rfl⟩;have CB:=hid (fun V=>binders_any k i V);rw[hbb]at hb01 hst hih CB;obtain⟨u,hu⟩:∃u,l[i]=u:=⟨_,rfl⟩;rw[hu]at hst hih hnode x0' x1' x2' hdep hsm;have hw1:IntKind.i64.wrap (b+bb)=b+bb:=IntWalk.i64_in _ (by omega);obtain⟨x,c,hxc⟩:∃x c,resU (movT G u (b+bb))=(x,c):=⟨_,_,rfl⟩;have HOK:Hid (c=0→movM G k 0 (l.take (i+1)) b= .ok (ps.map (·.1)++[x])):=hid (fun h0=>by
              rw[hst];cases e:movT G u (b+bb)with
              | error d=>rw[e,resU_error]at hxc;injection hxc with h1 h2;exact absurd (h2.trans h0) (movT_ne G u _ _ e)
              | ok y=>rw[e,resU_ok]at hxc;injection hxc with h1 h2;rw[h1])
            have HERR:Hid (c≠0→resU (movT G (.node k n l) b)=(.node 0 0 [],c)):=hid (fun h0=>by
              cases e:movT G u (b+bb)with
              | error d=>
                rw[e,resU_error]at hxc;injection hxc with h1 h2;rw[e]at hst;have h3:=movM_err G k b hst;rw[HE.out,h3,←h2];rfl
              | ok y=>rw[e,resU_ok]at hxc;injection hxc with h1 h2;exact absurd h2.symm h0)
            have HNO:=hid hnode;have HIH:Hid (∀(V:World),Below (wr.alloc (.cells #[.int .i64 u.k,.int .i64 u.n,.slice F u.l.length C] 25)).heap.size (wr.alloc (.cells #[.int .i64 u.k,.int .i64 u.n,.slice F u.l.length C] 25)) V→Calls prog 214 #[.agg #[.int .i64 u.k,.int .i64 u.n,.slice F u.l.length C],.int .i64 (b+bb),fv] V fun e w'=>
                ∃A' cap',e= .returned (.tuple #[.agg #[.int .i64 x.k,.int .i64 x.n,.slice A' x.l.length cap'],.int .i64 c])∧IsTerm w' V.heap.size w'.heap.size x A' cap'∧Below V.heap.size V w'):=hid (fun V hV=>by
              have hbb:=(hB.alloc hz (.cells #[.int .i64 u.k,.int .i64 u.n,.slice F u.l.length C] 25)).trans (hV.mono (by simp;omega));have h1:=hih V hbb (HNO.out.kept (((Below.refl wr.heap.size wr).alloc lrM7 (.cells #[.int .i64 u.k,.int .i64 u.n,.slice F u.l.length C] 25)).trans (hV.mono (by simp))) (by omega)) (by have:=hV.size;simp at this;omega);rw[hxc]at h1;exact h1)
            have BX1:=(HB1.out.alloc (.cells #[.int .i64 u.k,.int .i64 u.n,.slice F u.l.length C] 25));have HXB:=hid (show TBox (wr.alloc (.cells #[.int .i64 u.k,.int .i64 u.n,.slice F u.l.length C] 25)) wr.heap.size u.k u.n (.slice F u.l.length C)from TBox.of (Bk.new wr 25 _));have HXT:=hid (show TBox (wr.alloc (.cells #[.int .i64 u.k,.int .i64 u.n,.slice F u.l.length C] 25)) w.heap.size k n (.slice (some ⟨bk,o,none⟩) l.length cap)from TBox.of BX1);have hwl:w.heap.size<wr.heap.size:=by omega
            have HK:=hid (fun V (hV:Below (wr.alloc (.cells #[.int .i64 u.k,.int .i64 u.n,.slice F u.l.length C] 25)).heap.size (wr.alloc (.cells #[.int .i64 u.k,.int .i64 u.n,.slice F u.l.length C] 25)) V)=>(show V.cell? ⟨wr.heap.size,0,none⟩=some (.int .i64 u.k)∧V.cell? ⟨wr.heap.size,1,none⟩=some (.int .i64 u.n)∧V.cell? ⟨wr.heap.size,2,none⟩=some (.slice F u.l.length C)∧V.cell? ⟨w.heap.size,0,none⟩=some (.int .i64 k)from
              ⟨(HXB.out.kept hV (by simp)).c0,(HXB.out.kept hV (by simp)).c1,(HXB.out.kept hV (by simp)).c2,(HXT.out.kept hV (by simp;omega)).c0⟩))
            have HD1:=hid ((Below.refl (wr.alloc (.cells #[.int .i64 u.k,.int .i64 u.n,.slice F u.l.length C] 25)).heap.size (wr.alloc (.cells #[.int .i64 u.k,.int .i64 u.n,.slice F u.l.length C] 25))).drew);have HD2:=hid (((Below.refl (wr.alloc (.cells #[.int .i64 u.k,.int .i64 u.n,.slice F u.l.length C] 25)).heap.size (wr.alloc (.cells #[.int .i64 u.k,.int .i64 u.n,.slice F u.l.length C] 25))).alloc lrM7 (.cells #[.int .i64 0,.int .i64 0,.slice none 0 0] 25)).drew);have HD3:=hid (((Below.refl (wr.alloc (.cells #[.int .i64 u.k,.int .i64 u.n,.slice F u.l.length C] 25)).heap.size (wr.alloc (.cells #[.int .i64 u.k,.int .i64 u.n,.slice F u.l.length C] 25))).drew).alloc lrM7 (.cells #[.int .i64 0,.int .i64 0,.slice none 0 0] 25));have HV2:=hid (fun(w5:World) (hb:Below (((wr.alloc (.cells #[.int .i64 u.k,.int .i64 u.n,.slice F u.l.length C] 25)).alloc (.cells #[.int .i64 0,.int .i64 0,.slice none 0 0] 25)).drew).heap.size (((wr.alloc (.cells #[.int .i64 u.k,.int .i64 u.n,.slice F u.l.length C] 25)).alloc (.cells #[.int .i64 0,.int .i64 0,.slice none 0 0] 25)).drew) w5)=>
              (show Bk w5 (wr.heap.size+1) 25 #[.int .i64 0,.int .i64 0,.slice none 0 0]from(show Bk (((wr.alloc (.cells #[.int .i64 u.k,.int .i64 u.n,.slice F u.l.length C] 25)).alloc (.cells #[.int .i64 0,.int .i64 0,.slice none 0 0] 25)).drew) (wr.heap.size+1) 25 #[.int .i64 0,.int .i64 0,.slice none 0 0]from Bk.last (wr.alloc (.cells #[.int .i64 u.k,.int .i64 u.n,.slice F u.l.length C] 25)) 25 #[.int .i64 0,.int .i64 0,.slice none 0 0] (by simp)).below hb (by simp)))
            have HV3:=hid (fun(w5:World) (hb:Below (((wr.alloc (.cells #[.int .i64 u.k,.int .i64 u.n,.slice F u.l.length C] 25)).drew).alloc (.cells #[.int .i64 0,.int .i64 0,.slice none 0 0] 25)).heap.size (((wr.alloc (.cells #[.int .i64 u.k,.int .i64 u.n,.slice F u.l.length C] 25)).drew).alloc (.cells #[.int .i64 0,.int .i64 0,.slice none 0 0] 25)) w5)=>
              (show Bk w5 (wr.heap.size+1) 25 #[.int .i64 0,.int .i64 0,.slice none 0 0]from(show Bk (((wr.alloc (.cells #[.int .i64 u.k,.int .i64 u.n,.slice F u.l.length C] 25)).drew).alloc (.cells #[.int .i64 0,.int .i64 0,.slice none 0 0] 25)) (wr.heap.size+1) 25 #[.int .i64 0,.int .i64 0,.slice none 0 0]from Bk.last (wr.alloc (.cells #[.int .i64 u.k,.int .i64 u.n,.slice F u.l.length C] 25)) 25 #[.int .i64 0,.int .i64 0,.slice none 0 0] (by simp)).below hb (by simp)))
            have HBB:=hid (fun(V w5:World) (hb:Below V.heap.size V w5) (hV:Below (wr.alloc (.cells #[.int .i64 u.k,.int .i64 u.n,.slice F u.l.length C] 25)).heap.size (wr.alloc (.cells #[.int .i64 u.k,.int .i64 u.n,.slice F u.l.length C] 25)) V)=>hV.trans (hb.mono hV.size));clear hst hih hnode hdep hsm hbb hu hxc BX1 IH HE;go_upto_region 7 with fail
            go_cut [11,12]from 43 to 54 (fun s11 s12 wx=>∃gv A' cap',s11= .pointer (some ⟨gv,0,none⟩)∧s12= .int .i64 c∧TBox wx gv x.k x.n (.slice A' x.l.length cap')∧Below (wr.alloc (.cells #[.int .i64 u.k,.int .i64 u.n,.slice F u.l.length C] 25)).heap.size (wr.alloc (.cells #[.int .i64 u.k,.int .i64 u.n,.slice F u.l.length C] 25)) wx∧IsTerm wx (wr.heap.size+1) wx.heap.size x A' cap')
            case first=>
              go_region_held3 (fun w'=>w'.cell? ⟨wr.heap.size,0,none⟩=some (.int .i64 u.k)∧w'.cell? ⟨wr.heap.size,1,none⟩=some (.int .i64 u.n)∧w'.cell? ⟨wr.heap.size,2,none⟩=some (.slice F u.l.length C)∧w'.cell? ⟨w.heap.size,0,none⟩=some (.int .i64 k))
                (first|exact HK.out _ HD1.out|exact HK.out _ HD2.out|exact HK.out _ HD3.out|exact HK.out _ hB5|exact HK.out _ (hB5.alloc hB5.size _)|exact HK.out _ (((hB5.setCell (by simp) _).setCell (by simp) _).setCell (by simp) _))
                (first
                | (go_at_call 224;refine(CB.out _).mono ?_;rintro e w2 ⟨rfl,rfl⟩)
                | (go_at_call 214
                   refine(HIH.out _ (by first|exact HD1.out|exact HD2.out|exact HD3.out)).mono ?_;rintro e w3 ⟨A',cap',rfl,hn3,hb3⟩;have hB5:=HBB.out _ _ hb3 (by first|exact HD1.out|exact HD2.out|exact HD3.out)
                   first
                   | (have hbkv:=HV2.out _ hb3
                      have hfz:∀o,w3.frozen? ⟨wr.heap.size+1,o,none⟩=false:=fun o=>hbkv.cold o;have d0:=hbkv.cell 0;have d1:=hbkv.cell 1;have d2:=hbkv.cell 2;simp at d0 d1 d2)
                   | (have hbkv:=HV3.out _ hb3
                      have hfz:∀o,w3.frozen? ⟨wr.heap.size+1,o,none⟩=false:=fun o=>hbkv.cold o;have d0:=hbkv.cell 0;have d1:=hbkv.cell 1;have d2:=hbkv.cell 2;simp at d0 d1 d2)
                   | skip))
              all_goals
                go_wp2_with fail;go_meet;case rel=>
                  first
                  | exact⟨_,A',cap',rfl,rfl,TBox.of (Bk.new w3 _ _),hB5.alloc hB5.size _,(hn3.wide (by simp) lrM7).late _⟩
                  | exact⟨_,A',cap',rfl,rfl,TBox.of (((hbkv.at_ 0 (.int .i64 x.k)).at_ 1 (.int .i64 x.n)).at_ 2 (.slice A' x.l.length cap')),((hB5.setCell (by simp) _).setCell (by simp) _).setCell (by simp) _,(hn3.far3 (by simp) _ _ _).wide (by simp) (by simp[World.setCell])⟩
            case rest=>
            obtain⟨gv,A',cap',rfl,rfl,htb,hbx,hnx⟩:=hcut;have hzx:=hbx.size;simp at hzx;have HTB:=hid htb;have HNX:=hid hnx;have HBX:=hid hbx;have hbw:=(hB.alloc hz (.cells #[.int .i64 u.k,.int .i64 u.n,.slice F u.l.length C] 25)).trans (hbx.mono (by simp;omega));have HBWC:=hid hbw;have hwz:=hbw.size;have K2:=(HB2.out.alloc (.cells #[.int .i64 u.k,.int .i64 u.n,.slice F u.l.length C] 25)).below hbx (by simp;omega);have K1:=(HB1.out.alloc (.cells #[.int .i64 u.k,.int .i64 u.n,.slice F u.l.length C] 25)).below hbx (by simp;omega);have HK1:=hid K1;have HK2:=hid K2;obtain⟨v0,v1,v2,vl⟩:=htb;clear hbx hnx hbw HD1 HD2 HD3 HV2 HV3 HBB HIH CB x0' x1' x2';by_cases h0:c=0
            · have hst:=HOK.out h0;have t0:(c !=0)=false:=by rw[h0];rfl
              have HST:=hid hst;clear hst HOK HERR;have R1:=((HROW.out.alloc (.cells #[.int .i64 u.k,.int .i64 u.n,.slice F u.l.length C] 25)).below HBX.out).alloc (.cells #[.int .i64 x.k,.int .i64 x.n,.slice A' x.l.length cap'] 25);have HR1:=hid R1;have HOW:=hid R1.row;have hown0:=R1.row.lt;clear R1 h0;go_wp2_with (at_builtin;refine wpList_app rfl _ _ 23 rfl (w.heap.size+2) 25 i0 (.agg #[.int .i64 0,.int .i64 0,.slice none 0 0]) 3 40 Tryz.underlying23 hi0 hz0 hz1 hz2 rfl (by decide) _ _ _ rfl HOW.out (some ⟨wc.heap.size,0,none⟩) 1 1 (cellsM (x,A',cap')) rfl (src_at _ _ _ (by simp) rfl) (cellsM_one _) ?c3 ?c4 ?c5 ?_)
              case c3=>have:=HPS.out;unfold maxLen;omega
              case c4=>have:=HPS.out;omega
              case c5=>simp;omega
              rintro v2' w3 ⟨hown3,hg3,ho3⟩;have hsz3:=hg3.size;simp at hsz3;have HRow:=hid (HR1.out.push (Pn:=fun b=>wr.heap.size+1≤b∧b<wc.heap.size) (p:=(x,A',cap')) (HNX.out.alloc lrM7 (.cells #[.int .i64 x.k,.int .i64 x.n,.slice A' x.l.length cap'] 25)) (fun b hb=>⟨by have:=hb.2;simp;omega,fun e=>by
                have h1:=HROW.out.row.lt b e;omega⟩) hown3 hg3 ho3)
              have hne:∀g,g<w.heap.size+2→some g≠(Value.slice a1 ps.length c1).ownBlock:=fun g hg e=>by
                have:=hown0 g e.symm;omega
              have B1:=hid ((HK1.out.alloc (.cells #[.int .i64 x.k,.int .i64 x.n,.slice A' x.l.length cap'] 25)).grown hg3 (hne _ (by omega)));have B2:=hid ((HK2.out.alloc (.cells #[.int .i64 x.k,.int .i64 x.n,.slice A' x.l.length cap'] 25)).grown hg3 (hne _ (by omega)));have HB4:=hid ((HBWC.out.alloc hwz (.cells #[.int .i64 x.k,.int .i64 x.n,.slice A' x.l.length cap'] 25)).grown hg3 (by simp;omega) (fun g e=>by have:=hown0 g e;omega));clear hown3 hg3 ho3 hown0 hne;go_wp2_with fail;go_roundw
              case rel=>
                refine⟨i+1,ps++[(x,A',cap')],fun b=>P b∨(wr.heap.size+1≤b∧b<wc.heap.size),by omega,rfl,HB4.out,B1.out,B2.out,HRow.out, ?_,by have:=HPS.out;simp;omega, ?_⟩
                · intro b hb;rcases hb with hb|hb
                  · exact HPP.out b hb
                  · omega
                · rw[List.map_append];exact HST.out
              case measure=>simp[intOf];omega
            · have herr:=HERR.out h0;have t0:(c !=0)=true:=by simpa using h0
              have HER:=hid herr;have hfz:∀o,wc.frozen? ⟨w.heap.size+1,o,none⟩=false:=fun o=>K2.cold o;have d0:wc.cell? ⟨w.heap.size+1,0,none⟩=some (.int .i64 0):=K2.cell 0;have d1:wc.cell? ⟨w.heap.size+1,1,none⟩=some (.int .i64 0):=K2.cell 1;have d2:wc.cell? ⟨w.heap.size+1,2,none⟩=some (.slice none 0 0):=K2.cell 2;have B5:=((K2.at_ 0 (.int .i64 0)).at_ 1 (.int .i64 0)).at_ 2 (.slice none 0 0);have HS0:=hid (B5.cell 0);have HS1:=hid (B5.cell 1);have HS2:=hid (B5.cell 2);clear herr HOK HERR K2 K1 B5 h0;go_wp2_with fail;refine bodyPost_ret (v:= .tuple #[.agg #[.int .i64 0,.int .i64 0,.slice none 0 0],.int .i64 c]) (by simp[results,results214,go_sem,HS0.out,HS1.out,HS2.out]) rfl ?_;rw[HER.out];exact GivesT.zero (((HBWC.out.setCell (by simp) _).setCell (by simp) _).setCell (by simp) _)
          · obtain rfl:i=l.length:=by omega
            have HFULL:Hid (resU (movT G (.node k n l) b)=(.node k n (ps.map (·.1)),0)):=hid (by
              have:=HPL.out;rw[List.take_length]at this;rw[HE.out,this];rfl)
            have hpar:=HROW.out.parent (lo:=w.heap.size+2) lrM7 (fun b hb=>HPP.out b hb) k n;have HPAR:=hid hpar;have hfz:∀o,wr.frozen? ⟨w.heap.size+1,o,none⟩=false:=fun o=>HB2.out.cold o;have hfz1:wr.frozen? ⟨w.heap.size,2,none⟩=false:=HB1.out.cold 2;have d0:wr.cell? ⟨w.heap.size+1,0,none⟩=some (.int .i64 0):=HB2.out.cell 0;have d1:wr.cell? ⟨w.heap.size+1,1,none⟩=some (.int .i64 0):=HB2.out.cell 1;have d2:wr.cell? ⟨w.heap.size+1,2,none⟩=some (.slice none 0 0):=HB2.out.cell 2;have f0:wr.cell? ⟨w.heap.size,0,none⟩=some (.int .i64 k):=HB1.out.cell 0;have f1:wr.cell? ⟨w.heap.size,1,none⟩=some (.int .i64 n):=HB1.out.cell 1;have f2:wr.cell? ⟨w.heap.size,2,none⟩=some (.slice A l.length cap):=HB1.out.cell 2;have B5:=(((HB2.out.far (a:=⟨w.heap.size,2,none⟩) (by simp) (.slice a1 ps.length c1)).at_ 0 (.int .i64 k)).at_ 1 (.int .i64 n)).at_ 2 (.slice a1 ps.length c1);have HS0:=hid (B5.cell 0);have HS1:=hid (B5.cell 1);have HS2:=hid (B5.cell 2);clear hpar B5;go_wp2_with fail;refine bodyPost_ret (v:= .tuple #[.agg #[.int .i64 k,.int .i64 n,.slice a1 ps.length c1],.int .i64 0]) (by simp[results,results214,go_sem,HS0.out,HS1.out,HS2.out]) rfl ?_;rw[HFULL.out];refine⟨a1,c1,by rw[termV_node,List.length_map], ?_, ?_⟩
            · exact((HPAR.out.setFar (by simp) _).far3 (by omega) _ _ _).wide (by omega) (by simp[World.setCell])
            · exact(((hB.setCell (by simp) _).setCell (by simp) _).setCell (by simp) _).setCell (by simp) _
def fitsB (n:Int):Bool:=decide (0≤n) && decide (n≤1048576)
theorem fitsB_true {n:Int}:fitsB n=true↔0≤n∧n≤1048576:=by unfold fitsB;simp
def MovableRel (w:World) (ns:List Int) (k n:Int) (v:Value) (iv:Value) (wr:World):Prop:=∃i:Nat,i≤ns.length∧iv= .int .i64 i∧Below w.heap.size w wr∧(ns.take i).all fitsB=true∧TBox wr w.heap.size k n v
theorem movable_any (t:TM) (lo hi:Nat) (A:Option Addr) (cap:Nat) (ns:List Int) (g c:Nat) (w:World) (h:IsTerm w lo hi t A cap) (hhi:hi≤w.heap.size) (hS:ShapesM w) (hn:ns.length≤2) (hg:g<w.heap.size)
    (hc:∀i (hi:i<ns.length),w.cell? ⟨g,i,none⟩=some (.int .i64 ns[i])):
    Calls prog 213 #[termV t A cap,.slice (some ⟨g,0,none⟩) ns.length c] w fun e w'=>e= .returned (.bool (ns.all fitsB && shapedB t))∧Below w.heap.size w w':=by
  have HSH:=hid (fun V (hV:Below w.heap.size w V)=>shaped_any t lo hi A cap V (h.kept hV hhi) (by have:=hV.size;omega) (hS.kept hV));have HC:=hid hc;have HW1:=hid (fun o1=>((Below.refl w.heap.size w).alloc lrM7 o1));clear hc h hhi hS;unfold termV at HSH⊢;go_enter func213,ntmps213;go_wp2_with fail;go_loopw [9] (MovableRel w ns t.k t.n (.slice A t.l.length cap)) (fun iv _=>ns.length - (intOf iv).toNat)
  case atStart=>exact⟨0,Nat.zero_le _,rfl,HW1.out _,rfl,TBox.of (Bk.new w 25 _)⟩
  case round=>
    obtain⟨i,hi,rfl,hB,hall,htb⟩:=hrel;by_cases hil:i<ns.length
    · have hx:=HC.out i hil;have hst:(ns.take (i+1)).all fitsB=fitsB ns[i]:=by
        rw[List.take_succ_eq_append_getElem hil,List.all_append,hall];simp
      have hno:fitsB ns[i]=false→(ns.all fitsB && shapedB t)=false:=fun h=>by
        cases e:ns.all fitsB with
        | false=>rfl
        | true=>
          rw[List.all_eq_true]at e;have:=e _ (List.getElem_mem hil);rw[h]at this;cases this
      obtain⟨x,hxx⟩:∃x,ns[i]=x:=⟨_,rfl⟩;rw[hxx]at hx hst hno;have hy:wr.cell? ⟨g,i,none⟩=some (.int .i64 x):=(hB.cell (p:=⟨g,i,none⟩) hg).trans hx;have HST:=hid hst;have HNO:=hid hno;have HTB:=hid htb;have HB:=hid hB;clear hx hst hno hxx htb hall;by_cases h0:x<0
      · have hf:fitsB x=false:=by unfold fitsB;rw[decide_eq_false (show ¬ 0≤x by omega)];rfl
        have HF:=hid (HNO.out hf);clear hf;go_wp2_with fail;go_ret;exact⟨by rw[HF.out];rfl,HB.out⟩
      · by_cases h1:1048576<x
        · have hf:fitsB x=false:=by unfold fitsB;rw[decide_eq_false (show ¬ x≤1048576 by omega)];simp
          have HF:=hid (HNO.out hf);clear hf;go_wp2_with fail;go_ret;exact⟨by rw[HF.out];rfl,HB.out⟩
        · have hf:fitsB x=true:=fitsB_true.2 ⟨by omega,by omega⟩;have HF:=hid (HST.out.trans hf);clear hf;go_wp2_with fail;go_roundw
          case rel=>exact⟨i+1,by omega,by go_num,HB.out,HF.out,HTB.out⟩
          case measure=>simp[intOf];omega
    · obtain rfl:i=ns.length:=by omega
      rw[List.take_length]at hall;obtain⟨x0,x1,x2,xl⟩:=htb;have HB:=hid hB;have HA:=hid hall;clear hall hB;go_wp2_with fail;refine(HSH.out _ HB.out).mono ?_;rintro e w2 ⟨rfl,hb2⟩;go_wp2_with fail;go_ret;exact⟨by rw[HA.out,Bool.true_and];rfl,HB.out.trans (hb2.mono HB.out.size)⟩
def liftX (t:TM) (k n:Int):TM×Int:=if fitsB k && (fitsB n && shapedB t)then resU (movT (liftG k n) t 0)else(.node 0 0 [],5)
theorem varcalls_lift (a1 a2:Nat) (k n:Int) (w:World) (h1:w.cell? ⟨a1,0,none⟩=some (.int .i64 n)) (h2:w.cell? ⟨a2,0,none⟩=some (.int .i64 k)) (hn:0≤n∧n≤1048576) (hk:0≤k∧k≤1048576):
  VarCalls (.func (.func 215) #[] #[.pointer (some ⟨a1,0,none⟩),.pointer (some ⟨a2,0,none⟩)]) (liftG k n) w:=by
 intro m b V hV hm0 hm1 hb0 hb1;have l1:=World.block_lt_of_cell? w _ h1;have l2:=World.block_lt_of_cell? w _ h2;refine movedVar_lift ⟨a1,0,none⟩ ⟨a2,0,none⟩ (liftG k n) m b V hb0 hb1 ?_ (fun o=>cl_lift _ _ m k n _ ?_ ?_ ⟨hm0,hm1⟩ hn hk)
 ·unfold liftG;split<;>simp only<;>omega
 ·exact((hV.alloc hV.size o).cell (p:=⟨a1,0,none⟩) l1).trans h1
 ·exact((hV.alloc hV.size o).cell (p:=⟨a2,0,none⟩) l2).trans h2
theorem give_zero {w w1:World} {g:Nat} {c:Int} (hb:Below w.heap.size w w1) (hg:w.heap.size≤g):GivesT (.node 0 0 [],c) w (.returned (.tuple #[.agg #[.int .i64 0,.int .i64 0,.slice none 0 0],.int .i64 c])) (((w1.setCell ⟨g,0,none⟩ (.int .i64 0)).setCell ⟨g,1,none⟩ (.int .i64 0)).setCell ⟨g,2,none⟩ (.slice none 0 0)):=
 GivesT.zero (((hb.setCell hg _).setCell hg _).setCell hg _)
theorem give_term {w w1:World} {g lo:Nat} {x:TM} {c:Int} {A:Option Addr} {cap:Nat} (hb:Below w.heap.size w w1) (hg:w.heap.size≤g) (hx:IsTerm w1 lo w1.heap.size x A cap) (hlo:g<lo):
  GivesT (x,c) w (.returned (.tuple #[.agg #[.int .i64 x.k,.int .i64 x.n,.slice A x.l.length cap],.int .i64 c])) (((w1.setCell ⟨g,0,none⟩ (.int .i64 x.k)).setCell ⟨g,1,none⟩ (.int .i64 x.n)).setCell ⟨g,2,none⟩ (.slice A x.l.length cap)):=
 ⟨A,cap,rfl,(hx.far3 hlo _ _ _).wide (by omega) (by simp[World.setCell]),((hb.setCell hg _).setCell hg _).setCell hg _⟩
theorem lift_any (t:TM) (k n:Int) (lo hi:Nat) (A:Option Addr) (cap:Nat) (w:World) (h:IsTerm w lo hi t A cap) (hhi:hi≤w.heap.size) (hS:ShapesM w):
  Calls prog 197 #[termV t A cap,.int .i64 k,.int .i64 n] w (GivesT (liftX t k n) w):=by
 have HT:=hid (fun V (hV:Below w.heap.size w V)=>h.kept hV hhi);have HSS:=hid (fun V (hV:Below w.heap.size w V)=>hS.kept hV);have HHI:=hid hhi;have HB0:=hid (((((Below.refl w.heap.size w).alloc lrM7 (.cells #[.int .i64 t.k,.int .i64 t.n,.slice A t.l.length cap] 25)).alloc (by simp) (.cells #[.int .i64 k] 3)).alloc (by simp<;>omega) (.cells #[.int .i64 n] 3)).alloc (by simp<;>omega) (.cells #[.int .i64 0,.int .i64 0,.slice none 0 0] 25));have HBT:=hid (fun V (hV:Below ((((w.alloc (.cells #[.int .i64 t.k,.int .i64 t.n,.slice A t.l.length cap] 25)).alloc (.cells #[.int .i64 k] 3)).alloc (.cells #[.int .i64 n] 3)).alloc (.cells #[.int .i64 0,.int .i64 0,.slice none 0 0] 25)).heap.size ((((w.alloc (.cells #[.int .i64 t.k,.int .i64 t.n,.slice A t.l.length cap] 25)).alloc (.cells #[.int .i64 k] 3)).alloc (.cells #[.int .i64 n] 3)).alloc (.cells #[.int .i64 0,.int .i64 0,.slice none 0 0] 25)) V)=>(show TBox V w.heap.size t.k t.n (.slice A t.l.length cap)from TBox.of (((((Bk.new w 25 _).alloc (.cells #[.int .i64 k] 3)).alloc (.cells #[.int .i64 n] 3)).alloc (.cells #[.int .i64 0,.int .i64 0,.slice none 0 0] 25)).below hV (by simp<;>omega))));have HBN1:=hid (fun V (hV:Below ((((w.alloc (.cells #[.int .i64 t.k,.int .i64 t.n,.slice A t.l.length cap] 25)).alloc (.cells #[.int .i64 k] 3)).alloc (.cells #[.int .i64 n] 3)).alloc (.cells #[.int .i64 0,.int .i64 0,.slice none 0 0] 25)).heap.size ((((w.alloc (.cells #[.int .i64 t.k,.int .i64 t.n,.slice A t.l.length cap] 25)).alloc (.cells #[.int .i64 k] 3)).alloc (.cells #[.int .i64 n] 3)).alloc (.cells #[.int .i64 0,.int .i64 0,.slice none 0 0] 25)) V)=>(show Bk V (w.heap.size+1) 3 #[.int .i64 k]from(((Bk.last (w.alloc (.cells #[.int .i64 t.k,.int .i64 t.n,.slice A t.l.length cap] 25)) 3 #[.int .i64 k] (by simp)).alloc (.cells #[.int .i64 n] 3)).alloc (.cells #[.int .i64 0,.int .i64 0,.slice none 0 0] 25)).below hV (by simp<;>omega)));have HBN2:=hid (fun V (hV:Below ((((w.alloc (.cells #[.int .i64 t.k,.int .i64 t.n,.slice A t.l.length cap] 25)).alloc (.cells #[.int .i64 k] 3)).alloc (.cells #[.int .i64 n] 3)).alloc (.cells #[.int .i64 0,.int .i64 0,.slice none 0 0] 25)).heap.size ((((w.alloc (.cells #[.int .i64 t.k,.int .i64 t.n,.slice A t.l.length cap] 25)).alloc (.cells #[.int .i64 k] 3)).alloc (.cells #[.int .i64 n] 3)).alloc (.cells #[.int .i64 0,.int .i64 0,.slice none 0 0] 25)) V)=>(show Bk V (w.heap.size+2) 3 #[.int .i64 n]from((Bk.last ((w.alloc (.cells #[.int .i64 t.k,.int .i64 t.n,.slice A t.l.length cap] 25)).alloc (.cells #[.int .i64 k] 3)) 3 #[.int .i64 n] (by simp)).alloc (.cells #[.int .i64 0,.int .i64 0,.slice none 0 0] 25)).below hV (by simp<;>omega)));have HBZ:=hid (fun V (hV:Below ((((w.alloc (.cells #[.int .i64 t.k,.int .i64 t.n,.slice A t.l.length cap] 25)).alloc (.cells #[.int .i64 k] 3)).alloc (.cells #[.int .i64 n] 3)).alloc (.cells #[.int .i64 0,.int .i64 0,.slice none 0 0] 25)).heap.size ((((w.alloc (.cells #[.int .i64 t.k,.int .i64 t.n,.slice A t.l.length cap] 25)).alloc (.cells #[.int .i64 k] 3)).alloc (.cells #[.int .i64 n] 3)).alloc (.cells #[.int .i64 0,.int .i64 0,.slice none 0 0] 25)) V)=>(show Bk V (w.heap.size+3) 25 #[.int .i64 0,.int .i64 0,.slice none 0 0]from(Bk.last (((w.alloc (.cells #[.int .i64 t.k,.int .i64 t.n,.slice A t.l.length cap] 25)).alloc (.cells #[.int .i64 k] 3)).alloc (.cells #[.int .i64 n] 3)) 25 #[.int .i64 0,.int .i64 0,.slice none 0 0] (by simp)).below hV (by simp)));have HMV:=hid (fun(V:World) (g:Nat) (hV:Below w.heap.size w V) (hg:g<V.heap.size) (hc:∀i (hi:i<[k,n].length),V.cell? ⟨g,i,none⟩=some (.int .i64 [k,n][i]))=>movable_any t lo hi A cap [k,n] g 2 V (HT.out V hV) (by have:=hV.size;have:=HHI.out;omega) (HSS.out V hV) (by simp) hg hc);obtain⟨bx,hbx⟩:∃bx,(fitsB k && (fitsB n && shapedB t))=bx:=⟨_,rfl⟩;have hbl:([k,n].all fitsB && shapedB t)=bx:=by rw[←hbx];simp[Bool.and_assoc]
 rw[hbl]at HMV;have HBX:=hid hbx;clear h hS hhi hbl hbx;unfold termV at HMV⊢;go_enter func197,ntmps197;go_wp2_with fail;refine(HMV.out _ _ (HB0.out.alloc HB0.out.size _) (by simp<;>omega) (fun i hi=>by
  simp at hi;have hi2:i=0∨i=1:=by omega
  rcases hi2 with rfl|rfl
  ·exact(Bk.last ((((w.alloc (.cells #[.int .i64 t.k,.int .i64 t.n,.slice A t.l.length cap] 25)).alloc (.cells #[.int .i64 k] 3)).alloc (.cells #[.int .i64 n] 3)).alloc (.cells #[.int .i64 0,.int .i64 0,.slice none 0 0] 25)) 3 #[.int .i64 k,.int .i64 n] (by simp)).cell 0
  ·exact(Bk.last ((((w.alloc (.cells #[.int .i64 t.k,.int .i64 t.n,.slice A t.l.length cap] 25)).alloc (.cells #[.int .i64 k] 3)).alloc (.cells #[.int .i64 n] 3)).alloc (.cells #[.int .i64 0,.int .i64 0,.slice none 0 0] 25)) 3 #[.int .i64 k,.int .i64 n] (by simp)).cell 1)).mono ?_
 rintro e w1 ⟨rfl,hb1⟩;have hbz:=((Below.refl ((((w.alloc (.cells #[.int .i64 t.k,.int .i64 t.n,.slice A t.l.length cap] 25)).alloc (.cells #[.int .i64 k] 3)).alloc (.cells #[.int .i64 n] 3)).alloc (.cells #[.int .i64 0,.int .i64 0,.slice none 0 0] 25)).heap.size ((((w.alloc (.cells #[.int .i64 t.k,.int .i64 t.n,.slice A t.l.length cap] 25)).alloc (.cells #[.int .i64 k] 3)).alloc (.cells #[.int .i64 n] 3)).alloc (.cells #[.int .i64 0,.int .i64 0,.slice none 0 0] 25))).alloc lrM7 (.cells #[.int .i64 k,.int .i64 n] 3)).trans (hb1.mono (by simp));have HB1:=hid (HB0.out.trans (hbz.mono (by simp<;>omega)));have HBB:=hid hbz;have hz1:=hb1.size;simp at hz1;have BZ:=HBZ.out _ hbz;have BT:=HBT.out _ hbz;have BN1:=HBN1.out _ hbz;have BN2:=HBN2.out _ hbz;clear hb1 hbz;cases bx with
 | false=>
  have HE:=hid (show liftX t k n=(.node 0 0 [],5)by unfold liftX;rw[HBX.out];rfl);have d0:w1.cell? ⟨w.heap.size+3,0,none⟩=some (.int .i64 0):=BZ.cell 0;have d1:w1.cell? ⟨w.heap.size+3,1,none⟩=some (.int .i64 0):=BZ.cell 1;have d2:w1.cell? ⟨w.heap.size+3,2,none⟩=some (.slice none 0 0):=BZ.cell 2;have hfz:∀o,w1.frozen? ⟨w.heap.size+3,o,none⟩=false:=fun o=>BZ.cold o;have B5:=((BZ.at_ 0 (.int .i64 0)).at_ 1 (.int .i64 0)).at_ 2 (.slice none 0 0);have HS0:=hid (B5.cell 0);have HS1:=hid (B5.cell 1);have HS2:=hid (B5.cell 2);clear B5 BZ;go_wp2_with fail;refine bodyPost_ret (v:= .tuple #[.agg #[.int .i64 0,.int .i64 0,.slice none 0 0],.int .i64 5]) (by simp[results,results197,go_sem,HS0.out,HS1.out,HS2.out]) rfl ?_;rw[HE.out];exact give_zero HB1.out (by omega)
 | true=>
  have BN1c:w1.cell? ⟨w.heap.size+1,0,none⟩=some (.int .i64 k):=BN1.cell 0;have BN2c:w1.cell? ⟨w.heap.size+2,0,none⟩=some (.int .i64 n):=BN2.cell 0;have HE:=hid (show liftX t k n=resU (movT (liftG k n) t 0)by unfold liftX;rw[HBX.out,if_pos rfl]);obtain⟨f1,f23⟩:=Bool.and_eq_true _ _|>.mp HBX.out
  obtain⟨f2,f3⟩:=Bool.and_eq_true _ _|>.mp f23
  obtain⟨s1,s2,s3⟩:=shapedB_true.1 f3;have CM:=hid (moved_any (.func (.func 215) #[] #[.pointer (some ⟨w.heap.size+2,0,none⟩),.pointer (some ⟨w.heap.size+1,0,none⟩)]) (liftG k n) w1 (varcalls_lift (w.heap.size+2) (w.heap.size+1) k n w1 (BN2.cell 0) (BN1.cell 0) (fitsB_true.1 f2) (fitsB_true.1 f1)) t 0 lo hi A cap w1 (HT.out w1 HB1.out) (by have:=HB1.out.size;have:=HHI.out;omega) (Below.refl _ _) s3 s1 (by omega) (by omega));obtain⟨x,c,hxc⟩:∃x c,resU (movT (liftG k n) t 0)=(x,c):=⟨_,_,rfl⟩;rw[hxc]at CM HE;obtain⟨x0,x1,x2,xl⟩:=BT;have HZ:=hid BZ;clear hxc s1 s2 s3 f2 f3 BZ f1 f23 BN1 BN2;unfold termV at CM;go_wp2_with fail;refine CM.out.mono ?_;rintro e w2 ⟨A',cap',rfl,hx2,hb2⟩;rw[termV];have hz2:=hb2.size;have HB2:=hid (HB1.out.trans (hb2.mono HB1.out.size));have BZ:=HZ.out.below hb2 (by omega);have HX2:=hid hx2;clear hb2 hx2 x0 x1 x2 xl BN1c BN2c;have d0:w2.cell? ⟨w.heap.size+3,0,none⟩=some (.int .i64 0):=BZ.cell 0;have d1:w2.cell? ⟨w.heap.size+3,1,none⟩=some (.int .i64 0):=BZ.cell 1;have d2:w2.cell? ⟨w.heap.size+3,2,none⟩=some (.slice none 0 0):=BZ.cell 2;have hfz:∀o,w2.frozen? ⟨w.heap.size+3,o,none⟩=false:=fun o=>BZ.cold o;have B5:=((BZ.at_ 0 (.int .i64 x.k)).at_ 1 (.int .i64 x.n)).at_ 2 (.slice A' x.l.length cap');have HS0:=hid (B5.cell 0);have HS1:=hid (B5.cell 1);have HS2:=hid (B5.cell 2);clear B5 BZ;go_wp2_with fail;refine bodyPost_ret (v:= .tuple #[.agg #[.int .i64 x.k,.int .i64 x.n,.slice A' x.l.length cap'],.int .i64 c]) (by simp[results,results197,go_sem,HS0.out,HS1.out,HS2.out]) rfl ?_;rw[HE.out];exact give_term HB2.out (by omega) HX2.out (by omega)
theorem up_any (t:TM) (k:Int) (lo hi:Nat) (A:Option Addr) (cap:Nat) (w:World) (h:IsTerm w lo hi t A cap) (hhi:hi≤w.heap.size) (hS:ShapesM w):
  Calls prog 181 #[termV t A cap,.int .i64 k] w (GivesT (liftX t k 0) w):=by
 have CL:=hid (fun V (hV:Below w.heap.size w V)=>lift_any t k 0 lo hi A cap V (h.kept hV hhi) (by have:=hV.size;omega) (hS.kept hV));have HW2:=hid (fun o1 o2=>((Below.refl w.heap.size w).alloc lrM7 o1).alloc (by simp) o2);have HBZ:=hid (fun V (hV:Below ((w.alloc (.cells #[.int .i64 t.k,.int .i64 t.n,.slice A t.l.length cap] 25)).alloc (.cells #[.int .i64 0,.int .i64 0,.slice none 0 0] 25)).heap.size ((w.alloc (.cells #[.int .i64 t.k,.int .i64 t.n,.slice A t.l.length cap] 25)).alloc (.cells #[.int .i64 0,.int .i64 0,.slice none 0 0] 25)) V)=>(show Bk V (w.heap.size+1) 25 #[.int .i64 0,.int .i64 0,.slice none 0 0]from(Bk.last (w.alloc (.cells #[.int .i64 t.k,.int .i64 t.n,.slice A t.l.length cap] 25)) 25 #[.int .i64 0,.int .i64 0,.slice none 0 0] (by simp)).below hV (by simp)));obtain⟨x,c,hxc⟩:∃x c,liftX t k 0=(x,c):=⟨_,_,rfl⟩;rw[hxc]at CL⊢;clear h hhi hS hxc;unfold termV at CL⊢;go_enter func181,ntmps181;go_wp2_with fail;refine(CL.out _ (HW2.out _ _)).mono ?_;rintro e w2 ⟨A',cap',rfl,hx2,hb2⟩;rw[termV];have hz2:=hb2.size;simp at hz2;have HB2:=hid ((HW2.out _ _).trans (hb2.mono (by simp<;>omega)));have BZ:=HBZ.out _ hb2;have HX2:=hid hx2;clear hb2 hx2;have d0:w2.cell? ⟨w.heap.size+1,0,none⟩=some (.int .i64 0):=BZ.cell 0;have d1:w2.cell? ⟨w.heap.size+1,1,none⟩=some (.int .i64 0):=BZ.cell 1;have d2:w2.cell? ⟨w.heap.size+1,2,none⟩=some (.slice none 0 0):=BZ.cell 2;have hfz:∀o,w2.frozen? ⟨w.heap.size+1,o,none⟩=false:=fun o=>BZ.cold o;have B5:=((BZ.at_ 0 (.int .i64 x.k)).at_ 1 (.int .i64 x.n)).at_ 2 (.slice A' x.l.length cap');have HS0:=hid (B5.cell 0);have HS1:=hid (B5.cell 1);have HS2:=hid (B5.cell 2);clear B5 BZ;go_wp2_with fail;refine bodyPost_ret (v:= .tuple #[.agg #[.int .i64 x.k,.int .i64 x.n,.slice A' x.l.length cap'],.int .i64 c]) (by simp[results,results181,go_sem,HS0.out,HS1.out,HS2.out]) rfl ?_;exact give_term HB2.out (by omega) HX2.out (by simp)
theorem liftX_eq (t:TM) (k n:Int):liftX t k n=if fitsB k && (fitsB n && shapedB t)then(if tgoodB (moveT k t n)then(moveT k t n,0)else(.node 0 0 [],2))else(.node 0 0 [],5):=by
 unfold liftX;cases h:fitsB k && (fitsB n && shapedB t)with
 | false=>rfl
 | true=>
  simp only[Bool.and_eq_true]at h;obtain⟨h1,h2,h3⟩:=h;rw[if_pos rfl,if_pos rfl,lift_eq k n (fitsB_true.1 h1).1 (fitsB_true.1 h2).1 t 0 (by omega) (shapedB_true.1 h3).2.2,Int.add_zero];cases tgoodB (moveT k t n)<;>rfl
end Go.Proofs.YtchllgkgjompgaaGreatDoor
