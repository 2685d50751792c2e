import Derived.Test.YtchllgkgjompgaaGreatDoorM7
import Derived.Test.YtchllgkgjompgaaGreatDoorR2
namespace Go.Proofs.YtchllgkgjompgaaGreatDoor
open Go.RowKit
set_option linter.unusedVariables false
set_option maxRecDepth 100000
open Lib(hid)
open Go.Proofs.Tryz
def isV (k n b:Int):Prop:=k=8∨(k=1∧b≤n)
instance (k n b:Int):Decidable (isV k n b):=by unfold isV;infer_instance
abbrev Bec:=Int→Int→Int→TM×Int
def leafR (p:TM×Int) (r:Int):Except Int (TM×Int):=if r - (topN p.1.size:Int)<0 then .error 2 else if p.2=0 then .ok (p.1,r - (topN p.1.size:Int))else .error p.2
mutual
def witT (G:Bec):TM→Int→Int→Except Int (TM×Int)
 | .node k n l,b,r=>if isV k n b then leafR (G k n b) r else
  match witM G k 0 l b r with
  | .error c=> .error c
  | .ok (us,q)=> .ok (.node k n us,q)
def witM (G:Bec) (k:Int) (i:Nat):List TM→Int→Int→Except Int (List TM×Int)
 | [],_,r=> .ok ([],r)
 | t::l,b,r=>
  match witT G t (b+bnd k i) r with
  | .error c=> .error c
  | .ok (u,q)=>
   match witM G k (i+1) l b q with
   | .error c=> .error c
   | .ok (us,s)=> .ok (u::us,s)
end
theorem witT_node (G:Bec) (k n:Int) (l:List TM) (b r:Int):witT G (.node k n l) b r=if isV k n b then leafR (G k n b) r else
  match witM G k 0 l b r with
  | .error c=> .error c
  | .ok (us,q)=> .ok (.node k n us,q):=by rw[witT]
theorem witM_nil (G:Bec) (k:Int) (i:Nat) (b r:Int):witM G k i [] b r= .ok ([],r):=by rw[witM]
theorem witM_cons (G:Bec) (k:Int) (i:Nat) (t:TM) (l:List TM) (b r:Int):witM G k i (t::l) b r=
  match witT G t (b+bnd k i) r with
  | .error c=> .error c
  | .ok (u,q)=>
   match witM G k (i+1) l b q with
   | .error c=> .error c
   | .ok (us,s)=> .ok (u::us,s):=by rw[witM]
theorem witM_append (G:Bec):∀(l m:List TM) (k:Int) (i:Nat) (b r:Int),witM G k i (l++m) b r=
  match witM G k i l b r with
  | .error c=> .error c
  | .ok (us,q)=>
   match witM G k (i+l.length) m b q with
   | .error c=> .error c
   | .ok (vs,s)=> .ok (us++vs,s)
 | [],m,k,i,b,r=>by
  rw[List.nil_append,witM_nil];simp only[List.length_nil,Nat.add_zero];cases h:witM G k i m b r with
  | error c=>rfl
  | ok p=>obtain⟨us,s⟩:=p;rfl
 | t::l,m,k,i,b,r=>by
  rw[List.cons_append,witM_cons,witM_cons];have e:i+1+l.length=i+(t::l).length:=by simp;omega
  cases witT G t (b+bnd k i) r with
  | error c=>rfl
  | ok p=>
   obtain⟨u,q⟩:=p;simp only[];rw[witM_append G l,e];cases witM G k (i+1) l b q with
   | error c=>rfl
   | ok p=>
    obtain⟨us,s⟩:=p;simp only[];cases witM G k (i+(t::l).length) m b s with
    | error c=>rfl
    | ok p=>obtain⟨vs,x⟩:=p;rfl
theorem witM_take (G:Bec) (k b r:Int) {l:List TM} {i:Nat} (h:i<l.length) {us:List TM} {q:Int} (hu:witM G k 0 (l.take i) b r= .ok (us,q)):witM G k 0 (l.take (i+1)) b r=
  match witT G l[i] (b+bnd k i) q with
  | .error c=> .error c
  | .ok (u,s)=> .ok (us++[u],s):=by
 rw[take_snocM h,witM_append,hu];have e:0+(l.take i).length=i:=by simp;omega
 simp only[];rw[e,witM_cons];cases witT G l[i] (b+bnd k i) q with
 | error c=>rfl
 | ok p=>obtain⟨u,s⟩:=p;simp only[];rw[witM_nil]
theorem witM_err (G:Bec) (k b r:Int) {l:List TM} {i:Nat} {c:Int} (h:witM G k 0 (l.take i) b r= .error c):witM G k 0 l b r= .error c:=by
 have:=witM_append G (l.take i) (l.drop i) k 0 b r;rw[List.take_append_drop,h]at this;exact this
abbrev Put:=Int→Int→Int→TM
mutual
def putT (H:Put):TM→Int→TM
 | .node k n l,b=>if isV k n b then H k n b else .node k n (putM H k 0 l b)
def putM (H:Put) (k:Int) (i:Nat):List TM→Int→List TM
 | [],_=>[]
 | t::l,b=>putT H t (b+bnd k i)::putM H k (i+1) l b
end
theorem putT_node (H:Put) (k n:Int) (l:List TM) (b:Int):putT H (.node k n l) b=if isV k n b then H k n b else .node k n (putM H k 0 l b):=by rw[putT]
theorem putM_nil (H:Put) (k:Int) (i:Nat) (b:Int):putM H k i [] b=[]:=by rw[putM]
theorem putM_cons (H:Put) (k:Int) (i:Nat) (t:TM) (l:List TM) (b:Int):putM H k i (t::l) b=putT H t (b+bnd k i)::putM H k (i+1) l b:=by rw[putM]
def varOk (k n b:Int):Prop:=isV k n b∧0≤n∧n≤1048576∧0≤b∧b≤200
def Fair (G:Bec) (H:Put):Prop:=∀k n b,varOk k n b→G k n b=(H k n b,0)∨((G k n b).2=2∧tgoodB (H k n b)=false)
theorem wit_put {G:Bec} {H:Put} (hf:Fair G H):∀(t:TM) (b r:Int),tgoodB t=true→0≤b→b+t.depth≤200→0≤r→r≤8192→
    (∀u q,witT G t b r= .ok (u,q)→u=putT H t b∧r - (u.size:Int)≤q∧q≤r∧0≤q)∧
    (∀c,witT G t b r= .error c→c=2∧(tgoodB (putT H t b)=false∨r<((putT H t b).size:Int))):=by
  intro t;induction t using TM.ind with
  | h k n l ih=>
    intro b r hg hb0 hb1 hr0 hr1;obtain⟨g1,g2,g3,g4,g5,g6,g7⟩:=good_parts hg;rw[witT_node,putT_node];by_cases hv:isV k n b
    · rw[if_pos hv,if_pos hv];rw[tdepth_node]at hb1;have hvo:varOk k n b:=⟨hv,g4,g5,hb0,by omega⟩;obtain⟨p,hp⟩:∃p,G k n b=p:=⟨_,rfl⟩;have hF:=hf k n b hvo;rw[hp]at hF⊢;unfold leafR;have ht1:=topN_le' p.1.size;rcases hF with rfl|⟨h2,hno⟩
      · by_cases hl:r - (topN (H k n b).size:Int)<0
        · rw[if_pos hl];refine⟨fun u q h=>(nomatch h),fun c h=> ?_⟩;injection h with h;subst h;exact⟨rfl,.inr (by simp only at ht1;omega)⟩
        · rw[if_neg hl,if_pos rfl];refine⟨fun u q h=> ?_,fun c h=>(nomatch h)⟩;injection h with h;injection h with h1 h2;subst h1;subst h2;simp only at ht1;exact⟨rfl,by dsimp only;omega,by dsimp only;omega,by dsimp only;omega⟩
      · rw[h2];by_cases hl:r - (topN p.1.size:Int)<0
        · rw[if_pos hl];refine⟨fun u q h=>(nomatch h),fun c h=> ?_⟩;injection h with h;subst h;exact⟨rfl,.inl hno⟩
        · rw[if_neg hl,if_neg (by omega)];refine⟨fun u q h=>(nomatch h),fun c h=> ?_⟩;injection h with h;subst h;exact⟨rfl,.inl hno⟩
    · rw[if_neg hv,if_neg hv];rw[tdepth_node]at hb1;have hL:∀(m:List TM),(∀u∈m,u∈l)→∀(i:Nat) (r:Int),0≤r→r≤8192→
          (∀us q,witM G k i m b r= .ok (us,q)→us=putM H k i m b∧r - (sizeM us:Int)≤q∧q≤r∧0≤q)∧
          (∀c,witM G k i m b r= .error c→c=2∧(tgoodL (putM H k i m b)=false∨r<(sizeM (putM H k i m b):Int))):=by
        intro m;induction m with
        | nil=>
          intro _ i r h0 h1;rw[witM_nil,putM_nil];refine⟨fun us q h=> ?_,fun c h=>(nomatch h)⟩;injection h with h;injection h with h2 h3;subst h2;subst h3;exact⟨rfl,by rw[sizeM_nil];omega,by omega,by omega⟩
        | cons u m ihm=>
          intro hm i r h0 h1;have hb01:=bnd_01 k i;have hdep:u.depth≤depthM l:=depth_mem (hm u List.mem_cons_self);obtain⟨A1,A2⟩:=ih u (hm u List.mem_cons_self) (b+bnd k i) r (g7 u (hm u List.mem_cons_self)) (by omega) (by omega) h0 h1;rw[witM_cons,putM_cons,sizeM_cons];cases e:witT G u (b+bnd k i) r with
          | error c=>
            obtain⟨rfl,hc⟩:=A2 c e;refine⟨fun us q h=>(nomatch h),fun c h=> ?_⟩;injection h with h;subst h;refine⟨rfl, ?_⟩;rcases hc with hc|hc
            · left;rw[tgoodL_all,List.all_cons,hc];rfl
            · right;omega
          | ok p=>
            obtain⟨v,q⟩:=p;obtain⟨rfl,a1,a2,a3⟩:=A1 v q e;obtain⟨B1,B2⟩:=ihm (fun v hv=>hm v (List.mem_cons_of_mem _ hv)) (i+1) q a3 (by omega);simp only[];cases e2:witM G k (i+1) m b q with
            | error c=>
              obtain⟨rfl,hc⟩:=B2 c e2;refine⟨fun us q h=>(nomatch h),fun c h=> ?_⟩;injection h with h;subst h;refine⟨rfl, ?_⟩;rcases hc with hc|hc
              · left;rw[tgoodL_all,List.all_cons,←tgoodL_all,hc];simp
              · right;omega
            | ok p=>
              obtain⟨vs,s⟩:=p;obtain⟨rfl,c1,c2,c3⟩:=B1 vs s e2;refine⟨fun us q h=> ?_,fun c h=>(nomatch h)⟩;injection h with h;injection h with h1 h2;subst h1;subst h2;exact⟨rfl,by rw[sizeM_cons];omega,by omega,by omega⟩
      obtain⟨B1,B2⟩:=hL l (fun _ h=>h) 0 r hr0 hr1;cases e:witM G k 0 l b r with
      | error c=>
        obtain⟨rfl,hc⟩:=B2 c e;refine⟨fun us q h=>(nomatch h),fun c h=> ?_⟩;injection h with h;subst h;refine⟨rfl, ?_⟩;rcases hc with hc|hc
        · left;rw[tgoodB_node,hc];simp
        · right;rw[tsize_node];omega
      | ok p=>
        obtain⟨vs,s⟩:=p;obtain⟨rfl,c1,c2,c3⟩:=B1 vs s e;refine⟨fun us q h=> ?_,fun c h=>(nomatch h)⟩;injection h with h;injection h with h1 h2;subst h1;subst h2;exact⟨rfl,by rw[tsize_node];omega,by omega,by omega⟩
where
 depth_mem {t:TM} {l:List TM} (h:t∈l):t.depth≤depthM l:=by
  induction l with
  | nil=>cases h
  | cons u l ih=>
   rw[depthM_cons];rcases List.mem_cons.1 h with rfl|h
   ·omega
   ·have:=ih h;omega
def gotX (u:TM):TM×Int:=if shapedB u then(u,0)else(.node 0 0 [],2)
def changedX (G:Bec) (t:TM):TM×Int:=match witT G t 0 8192 with| .error c=>(.node 0 0 [],c)| .ok (u,_)=>if shapedB u then(u,0)else(.node 0 0 [],2)
theorem changedX_eq {G:Bec} {H:Put} (hf:Fair G H) {t:TM} (h:shapedB t=true):changedX G t=gotX (putT H t 0):=by
 obtain⟨h1,h2,h3⟩:=shapedB_true.1 h;obtain⟨A,B⟩:=wit_put hf t 0 8192 h3 (by omega) (by omega) (by omega) (by omega);unfold changedX gotX;cases e:witT G t 0 8192 with
 | error c=>
  obtain⟨rfl,hc⟩:=B c e;have:shapedB (putT H t 0)=false:=by
   cases e2:shapedB (putT H t 0)with
   | false=>rfl
   | true=>
    obtain⟨s1,s2,s3⟩:=shapedB_true.1 e2;rcases hc with hc|hc
    ·rw[hc]at s3;cases s3
    ·omega
  rw[this];rfl
 | ok p=>
  obtain⟨u,q⟩:=p;obtain⟨rfl,_⟩:=A u q e;rfl
theorem shaped_part {k n:Int} {l:List TM} {t:TM} (h:t∈l) (hs:shapedB (.node k n l)=true):shapedB t=true:=by
 obtain⟨s1,s2,s3⟩:=shapedB_true.1 hs;rw[tsize_node]at s1;rw[tdepth_node]at s2;have h1:=tsize_mem h;have h2:=wit_put.depth_mem h;exact shapedB_true.2 ⟨by omega,by omega,(good_parts s3).2.2.2.2.2.2 t h⟩
structure Near (g B:Nat) (a b:World):Prop where
 os:b.os=a.os
 tape:b.tape=a.tape
 output:b.output=a.output
 size:a.heap.size≤b.heap.size
 block:∀k,k<B→k≠g→b.heap[k]? =a.heap[k]?
theorem Near.refl (g B:Nat) (w:World):Near g B w w:=⟨rfl,rfl,rfl,Nat.le_refl _,fun _ _ _=>rfl⟩
theorem Near.of {g B:Nat} {a b:World} (h:Below B a b):Near g B a b:=⟨h.os,h.tape,h.output,h.size,fun k hk _=>h.block k hk⟩
theorem Near.trans {g B:Nat} {a b c:World} (h:Near g B a b) (k:Near g B b c):Near g B a c:=
 ⟨k.os.trans h.os,k.tape.trans h.tape,k.output.trans h.output,Nat.le_trans h.size k.size,fun i hi hg=>(k.block i hi hg).trans (h.block i hi hg)⟩
theorem Near.mono {g B B':Nat} {w w':World} (h:Near g B w w') (hB:B'≤B):Near g B' w w':=⟨h.os,h.tape,h.output,h.size,fun k hk=>h.block k (Nat.lt_of_lt_of_le hk hB)⟩
theorem Near.alloc {g B:Nat} {a w:World} (h:Near g B a w) (hB:B≤w.heap.size) (o:Obj):Near g B a (w.alloc o):=
 h.trans (Near.of ((Below.refl B w).alloc hB o))
theorem Near.setCell {g B:Nat} {a w:World} (h:Near g B a w) {p:Addr} (hp:B≤p.block) (u:Value):Near g B a (w.setCell p u):=
 h.trans (Near.of ((Below.refl B w).setCell hp u))
theorem Near.own {g B:Nat} {a w:World} (h:Near g B a w) (o:Nat) (u:Value):Near g B a (w.setCell ⟨g,o,none⟩ u):=
 h.trans ⟨rfl,rfl,rfl,by simp[World.setCell],fun k _ hk=>Below.heap_setCell _ _ _ _ hk⟩
theorem Near.grown {g B:Nat} {a w w':World} {row:Option Nat} (h:Near g B a w) (hg:w.grownBy w' row) (hB:B≤w.heap.size) (hr:∀k,row=some k→B≤k):Near g B a w':=
 h.trans (Near.of ((Below.refl B w).grown hg hB hr))
theorem Near.cell {g B:Nat} {w w':World} (h:Near g B w w') {b o:Nat} (hb:b<B) (hg:b≠g):w'.cell? ⟨b,o,none⟩=w.cell? ⟨b,o,none⟩:=World.cell?_of_block (a:=⟨b,o,none⟩) (h.block b hb hg)
theorem Near.below {g B A:Nat} {a b c:World} (h:Below A a b) (k:Near g B b c) (hA:A≤g) (hB:A≤B):Below A a c:=
 h.trans ⟨k.os,k.tape,k.output,k.size,fun i hi=>k.block i (by omega) (by omega)⟩
theorem Bk.near {w w':World} {b g B:Nat} {e:TypeId} {cs:Array Value} (h:Bk w b e cs) (hb:Near g B w w') (hB:b<B) (hg:b≠g):Bk w' b e cs:=(hb.block b hB hg).trans h
theorem IsTerm.near {w w':World} {lo hi g B:Nat} {t:TM} {A:Option Addr} {cap:Nat} (h:IsTerm w lo hi t A cap) (hb:Near g B w w') (hB:hi≤B) (hg:hi≤g∨g<lo):IsTerm w' lo hi t A cap:=
 h.imp (fun b o h1 h2=>hb.cell (by omega) (by omega)) (Nat.le_refl _) (Nat.le_refl _)
theorem TBox.near {W W':World} {b g B:Nat} {k n:Int} {v:Value} (h:TBox W b k n v) (hb:Near g B W W') (hB:b<B) (hg:b≠g):TBox W' b k n v:=
 ⟨(hb.cell hB hg).trans h.c0,(hb.cell hB hg).trans h.c1,(hb.cell hB hg).trans h.c2,Nat.lt_of_lt_of_le h.lt hb.size⟩
theorem SubTm.near {w w':World} {lo hi g B:Nat} {A:Option Addr} {l:List TM} {i:Nat} {h:i<l.length} (hx:SubTm w lo hi A l i h) (hb:Near g B w w') (hB:hi≤B) (hg:hi≤g):SubTm w' lo hi A l i h:=by
 obtain⟨b,o,F,C,hA,h1,h2,⟨x0,x1,x2⟩,h4⟩:=hx;have e:∀q,w'.cell? ⟨b,q,none⟩=w.cell? ⟨b,q,none⟩:=fun q=>hb.cell (by omega) (by omega);exact⟨b,o,F,C,hA,h1,h2,⟨by rw[e,x0],by rw[e,x1],by rw[e,x2]⟩,h4.near hb hB (.inl hg)⟩
theorem TermRow.near {w w':World} {base g:Nat} {e:TypeId} {v:Value} {ps:List (TM×Option Addr×Nat)} {P:Nat→Prop} (h:TermRow w base e v ps P) (hb:Near g w.heap.size w w') (hg:g<base) (hP:∀b,P b→g<b):TermRow w' base e v ps P:=by
 refine h.kept hb.size (h.row.kept (row:=some g) ⟨hb.os,hb.tape,hb.output,hb.size,fun k hk hne=>hb.block k hk (fun e=>hne (by rw[e]))⟩ ?_) (fun b hb'=>hb.block b (h.far b hb').1 (fun e=>by have:=hP b hb';omega));right
 intro e2;have:=(h.row.lt _ e2).1;omega
def firstG (ls:List TM):Bec:=fun k n b=>if k=8 then(.node k n [],0)else if n - b<(ls.length:Int)then liftX (ls.getD (n - b).toNat (.node 0 0 [])) b 0 else(.node 1 (n - ls.length) [],0)
theorem GivesT.leafK {w w':World} {k n:Int} (hb:Below w.heap.size w w'):GivesT (.node k n [],0) w (.returned (.tuple #[.agg #[.int .i64 k,.int .i64 n,.slice none 0 0],.int .i64 0])) w':=
 ⟨none,0,rfl,leaf_in _ _ _ _,hb⟩
theorem sbinders_any (k:Int) (i:Nat) (w:World):Calls prog 211 #[.int .i64 k,.int .i64 (i:Int)] w fun e w'=>e= .returned (.int .i64 (bnd k i))∧w'=w:=by
 by_cases hi:i=1
 ·have t1:((i:Int)==1)=true:=by rw[hi];rfl
  by_cases h3:k=3
  ·have t2:(k==3)=true:=by simpa using h3
   have e:bnd k i=1:=by unfold bnd;rw[if_pos ⟨hi,.inl h3⟩]
   rw[e];clear hi h3 e;go_enter func211,ntmps211;go_wp2_with fail;go_ret;exact⟨rfl,rfl⟩
  ·have t2:(k==3)=false:=by simpa using h3
   by_cases h4:k=4
   ·have t3:(k==4)=true:=by simpa using h4
    have e:bnd k i=1:=by unfold bnd;rw[if_pos ⟨hi,.inr h4⟩]
    rw[e];clear hi h3 h4 e;go_enter func211,ntmps211;go_wp2_with fail;go_ret;exact⟨rfl,rfl⟩
   ·have t3:(k==4)=false:=by simpa using h4
    have e:bnd k i=0:=by unfold bnd;rw[if_neg (fun h=>h.2.elim h3 h4)]
    rw[e];clear hi h3 h4 e;go_enter func211,ntmps211;go_wp2_with fail;go_ret;exact⟨rfl,rfl⟩
 ·have t1:((i:Int)==1)=false:=by simp;omega
  have e:bnd k i=0:=by unfold bnd;rw[if_neg (fun h=>hi h.1)]
  rw[e];clear hi e;go_enter func211,ntmps211;go_wp2_with fail;go_ret;exact⟨rfl,rfl⟩
set_option maxHeartbeats 1000000 in
theorem cl_first (g1:Nat) (ls:List TM) (k n b:Int) (lo hi:Nat) (A:Option Addr) (cap:Nat) (w:World) (h1:w.cell? ⟨g1,0,none⟩=some (.slice A ls.length cap)) (ha:IsTerm w lo hi (.node 0 0 ls) A cap) (hhi:hi≤w.heap.size) (hS:ShapesM w) (hl:ls.length≤4000000000) (hv:varOk k n b):
  Calls prog 195 #[.agg #[.int .i64 k,.int .i64 n,.slice none 0 0],.int .i64 b,.pointer (some ⟨g1,0,none⟩)] w (GivesT (firstG ls k n b) w):=by
 have hlt:g1<w.heap.size:=World.block_lt_of_cell? w _ h1;obtain⟨hv0,hn0,hn1,hb0,hb1⟩:=hv;have HSS:=hid hS;have HA:=hid ha;have HW2:=hid (fun o1 o2=>((Below.refl w.heap.size w).alloc (Nat.le_refl _) o1).alloc (by simp) o2);have HBZ:=hid (fun V (hV:Below ((w.alloc (.cells #[.int .i64 k,.int .i64 n,.slice none 0 0] 25)).alloc (.cells #[.int .i64 0,.int .i64 0,.slice none 0 0] 25)).heap.size ((w.alloc (.cells #[.int .i64 k,.int .i64 n,.slice none 0 0] 25)).alloc (.cells #[.int .i64 0,.int .i64 0,.slice none 0 0] 25)) V)=>(show Bk V (w.heap.size+1) 25 #[.int .i64 0,.int .i64 0,.slice none 0 0]from(Bk.last (w.alloc (.cells #[.int .i64 k,.int .i64 n,.slice none 0 0] 25)) 25 #[.int .i64 0,.int .i64 0,.slice none 0 0] (by simp)).below hV (by simp)));have hw1:IntKind.i64.wrap (n - b)=n - b:=IntWalk.i64_in _ (by omega);have hw2:IntKind.i64.wrap (n - (ls.length:Int))=n - (ls.length:Int):=IntWalk.i64_in _ (by omega);clear ha hS;by_cases hk:k=8
 ·have t1:(k==8)=true:=by simpa using hk
  have e:firstG ls k n b=(.node k n [],0):=by unfold firstG;rw[if_pos hk]
  rw[e];clear e hk HBZ HW2 hv0 hn0 hn1 hb0 hb1 hl;go_enter func195,ntmps195;go_wp2_with fail;refine bodyPost_ret (v:= .tuple #[.agg #[.int .i64 k,.int .i64 n,.slice none 0 0],.int .i64 0]) (by simp[results,results195,go_sem]) rfl ?_;exact GivesT.leafK (by repeat first|exact Below.refl _ _|refine Below.setCell ?_ (by simp) _|refine Below.alloc ?_ (by simp<;>omega) _)
 ·have t1:(k==8)=false:=by simpa using hk
  have hbn:b≤n:=by rcases hv0 with h|h;exact absurd h hk;exact h.2
  by_cases hm:n - b<(ls.length:Int)
  ·obtain⟨m,hmm⟩:∃m:Nat,n - b=(m:Int):=⟨(n - b).toNat,by omega⟩;have hml:m<ls.length:=by omega
   have e:firstG ls k n b=liftX ls[m] b 0:=by
    unfold firstG;rw[if_neg hk,if_pos hm,hmm];show liftX (ls.getD (m:Int).toNat _) b 0=_
    rw[Int.toNat_natCast,List.getD_eq_getElem?_getD,List.getElem?_eq_getElem hml];rfl
   rw[e];rw[hmm]at hw1 hm;have hm0:(0:Int)≤(m:Int):=by omega
   have t2:decide ((m:Int)<(ls.length:Int))=true:=decide_eq_true hm;obtain⟨gb,go,F,C,hA,hb1',hb2',⟨y0,y1,y2⟩,hnode⟩:=HA.out.sub m hml;subst hA;obtain⟨u,hu⟩:∃u,ls[m]=u:=⟨_,rfl⟩;rw[hu]at y0 y1 y2 hnode⊢;have hgb:gb<w.heap.size:=by omega
   have CL:=hid (fun V (hV:Below w.heap.size w V)=>up_any u b lo hi F C V (hnode.kept hV hhi) (by have:=hV.size;omega) (HSS.out.kept hV));obtain⟨x,c,hxc⟩:∃x c,liftX u b 0=(x,c):=⟨_,_,rfl⟩;rw[hxc]at CL⊢;clear hxc e hk hu hnode hv0 hn0 hn1 hb0 hb1 hl hbn hb1' hb2' hhi HA;unfold termV at CL;go_enter func195,ntmps195;go_wp2_with fail;refine(CL.out _ (HW2.out _ _)).mono ?_;rintro e w2 ⟨A',cap',rfl,hx2,hb2⟩;rw[termV];have hz2:=hb2.size;simp at hz2;have HB2:=hid ((HW2.out _ _).trans (hb2.mono (by simp<;>omega)));have BZ:=HBZ.out _ hb2;have HX2:=hid hx2;clear hb2 hx2;have d0:w2.cell? ⟨w.heap.size+1,0,none⟩=some (.int .i64 0):=BZ.cell 0;have d1:w2.cell? ⟨w.heap.size+1,1,none⟩=some (.int .i64 0):=BZ.cell 1;have d2:w2.cell? ⟨w.heap.size+1,2,none⟩=some (.slice none 0 0):=BZ.cell 2;have hfz:∀o,w2.frozen? ⟨w.heap.size+1,o,none⟩=false:=fun o=>BZ.cold o;have B5:=((BZ.at_ 0 (.int .i64 x.k)).at_ 1 (.int .i64 x.n)).at_ 2 (.slice A' x.l.length cap');have HS0:=hid (B5.cell 0);have HS1:=hid (B5.cell 1);have HS2:=hid (B5.cell 2);clear B5 BZ;go_wp2_with fail;refine bodyPost_ret (v:= .tuple #[.agg #[.int .i64 x.k,.int .i64 x.n,.slice A' x.l.length cap'],.int .i64 c]) (by simp[results,results195,go_sem,HS0.out,HS1.out,HS2.out]) rfl ?_;exact give_term HB2.out (by omega) HX2.out (by simp)
  ·have t2:decide (n - b<(ls.length:Int))=false:=decide_eq_false hm;have e:firstG ls k n b=(.node 1 (n - (ls.length:Int)) [],0):=by unfold firstG;rw[if_neg hk,if_neg hm]
   rw[e];clear e hk hm HBZ HW2 hv0 hn0 hn1 hb0 hb1 hl hbn;go_enter func195,ntmps195;go_wp2_with fail;refine(mk_var _ _).mono ?_;rintro e w1 ⟨rfl,rfl⟩;go_wp2_with fail;refine bodyPost_ret (v:= .tuple #[.agg #[.int .i64 1,.int .i64 (n - (ls.length:Int)),.slice none 0 0],.int .i64 0]) (by simp[results,results195,go_sem]) rfl ?_;exact GivesT.leafK (by repeat first|exact Below.refl _ _|refine Below.setCell ?_ (by simp) _|refine Below.alloc ?_ (by simp<;>omega) _)
def firstP (ls:List TM):Put:=fun k n b=>if k=8 then .node k n []else if n - b<(ls.length:Int)then moveT b (ls.getD (n - b).toNat (.node 0 0 [])) 0 else .node 1 (n - ls.length) []
theorem lift_fair {a:TM} (ha:shapedB a=true) {y:Int} (h0:0≤y) (h1:y≤1048576):liftX a y 0=(moveT y a 0,0)∨((liftX a y 0).2=2∧tgoodB (moveT y a 0)=false):=by
 rw[liftX_eq,fitsB_true.2 ⟨h0,h1⟩,fitsB_true.2 ⟨Int.le_refl 0,by omega⟩,ha];cases e:tgoodB (moveT y a 0)with
 | true=>exact .inl rfl
 | false=>exact .inr ⟨rfl,rfl⟩
theorem fair_first {ls:List TM} (h:ls.all shapedB=true):Fair (firstG ls) (firstP ls):=by
 rintro k n b ⟨hv,hn0,hn1,hb0,hb1⟩;unfold firstG firstP;by_cases hk:k=8
 ·rw[if_pos hk,if_pos hk];exact .inl rfl
 ·rw[if_neg hk,if_neg hk];by_cases hm:n - b<(ls.length:Int)
  ·rw[if_pos hm,if_pos hm];have hbn:b≤n:=by rcases hv with h|h;exact absurd h hk;exact h.2
   have hml:(n - b).toNat<ls.length:=by omega
   rw[List.getD_eq_getElem?_getD,List.getElem?_eq_getElem hml];exact lift_fair (List.all_eq_true.1 h _ (List.getElem_mem hml)) hb0 (by omega)
  ·rw[if_neg hm,if_neg hm];exact .inl rfl
def manyX (t:TM) (l:List TM):TM×Int:=if shapedB t && l.all shapedB then gotX (putT (firstP l) t 0)else(.node 0 0 [],5)
theorem isV_leaf {k n b:Int} (h:isV k n b):k=1∨k=8:=h.elim .inr (fun h=> .inl h.1)
theorem got_ok {u x:TM} (h:gotX u=(x,0)):x=u∧shapedB u=true:=by
 unfold gotX at h;cases e:shapedB u with
 | true=>rw[e,if_pos rfl]at h;injection h with h1 h2;exact⟨h1.symm,rfl⟩
 | false=>rw[e]at h;injection h with h1 h2;cases h2
theorem many_ok {t x:TM} {l:List TM} (h:manyX t l=(x,0)):shapedB t=true∧l.all shapedB=true∧x=putT (firstP l) t 0∧shapedB x=true:=by
 unfold manyX at h;cases e:shapedB t && l.all shapedB with
 | true=>
  rw[e,if_pos rfl]at h;obtain⟨h1,h2⟩:=got_ok h;obtain⟨h3,h4⟩:=(Bool.and_eq_true _ _).mp e;exact⟨h3,h4,h1,by rw[h1];exact h2⟩
 | false=>rw[e]at h;injection h with h1 h2;cases h2
def aroundT (k:Int) (l:List TM) (t:TM):TM:=l.foldr (fun a b=> .node k 0 [a,b]) t
theorem aroundT_cons (k:Int) (a:TM) (l:List TM) (t:TM):aroundT k (a::l) t= .node k 0 [a,aroundT k l t]:=rfl
def aroundX (k:Int) (l:List TM) (t:TM):TM×Int:=if 24<l.length then(.node 0 0 [],2)else if shapedB t && l.all shapedB then gotX (aroundT k l t)else(.node 0 0 [],5)
def pisN:TM→Nat
 | .node k _ l=>if k=3 then pisL l+1 else 0
where pisL:List TM→Nat
 | [_,b]=>pisN b
 | _=>0
theorem pisN_not {t:TM} (h:t.k≠3):pisN t=0:=by
 obtain⟨k,n,l⟩:=t;rw[pisN,if_neg (show ¬ k=3 from h)]
theorem pisN_pi (n:Int) (a b:TM):pisN (.node 3 n [a,b])=pisN b+1:=by rw[pisN,if_pos rfl,pisN.pisL]
def takeT:Nat→TM→Option (List TM×TM)
 | 0,t=>some ([],t)
 | n+1,t=>if t.k=3 then(takeT n (t.l.getD 1 (.node 0 0 []))).map (fun p=>(t.l.getD 0 (.node 0 0 [])::p.1,p.2))else none
theorem takeT_not {n:Nat} {t:TM} (h:t.k≠3):takeT (n+1) t=none:=by
 rw[takeT,if_neg h]
theorem takeT_pi (n:Nat) (m:Int) (a b:TM):takeT (n+1) (.node 3 m [a,b])=(takeT n b).map (fun p=>(a::p.1,p.2)):=by
 rw[takeT];exact if_pos rfl
def splitX (t:TM) (n:Int):List TM×TM×Int:=
 if shapedB t && decide (0≤n)then(if 24<n then([],.node 0 0 [],2)else match takeT n.toNat t with|some p=>(p.1,p.2,0)|none=>([],.node 0 0 [],6))else([],.node 0 0 [],5)
theorem pi_parts {t:TM} (h:tgoodB t=true) (hk:t.k=3):∃n a b,t= .node 3 n [a,b]∧tgoodB a=true∧tgoodB b=true:=by
 obtain⟨k,n,l⟩:=t;obtain rfl:k=3:=hk;obtain⟨g1,g2,g3,g4,g5,g6,gp⟩:=good_parts h
 match l,g3,gp with
 | [a,b],_,gp=>exact⟨n,a,b,rfl,gp a List.mem_cons_self,gp b (List.mem_cons_of_mem _ List.mem_cons_self)⟩
theorem pi_shaped {n:Int} {a b:TM} (h:shapedB (.node 3 n [a,b])=true):shapedB a=true∧shapedB b=true:=
 ⟨shaped_part List.mem_cons_self h,shaped_part (List.mem_cons_of_mem _ List.mem_cons_self) h⟩
theorem pisN_depth:∀t:TM,pisN t≤t.depth:=by
 intro t;induction t using TM.ind with
 | h k n l ih=>
  by_cases hk:k=3
  ·subst hk;rw[pisN,if_pos rfl,tdepth_node];unfold pisN.pisL;split
   ·rename_i a b
    have:=ih b (by simp);rw[depthM_cons,depthM_cons,depthM_nil];omega
   ·omega
  ·rw[pisN_not (t:= .node k n l) hk];omega
def varsT (n:Nat):List TM:=(List.range n).map fun(i:Nat)=>TM.node 1 ((n - 1 - i:Nat):Int) []
theorem varsT_len (n:Nat):(varsT n).length=n:=by unfold varsT;simp
end Go.Proofs.YtchllgkgjompgaaGreatDoor
