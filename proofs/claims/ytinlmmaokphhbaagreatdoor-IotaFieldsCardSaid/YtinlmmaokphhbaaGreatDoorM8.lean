import Derived.Test.YtinlmmaokphhbaaGreatDoorM7
import Derived.Test.YtinlmmaokphhbaaGreatDoorR2
namespace Go.Proofs.YtinlmmaokphhbaaGreatDoor
open Go.RowKit
set_option linter.unusedVariables false
set_option maxRecDepth 100000
open Lib(hid)
open Go.Proofs.Tryz
open _root_.List renaming mem_cons_self→Qa,mem_cons_of_mem→Qb,getD_eq_getElem?_getD→Qc,getElem?_eq_getElem→Qd,all_cons→Qe
open Go.RowKit.Below renaming refl→Qf,setCell→Qg
open _root_.Nat renaming le_refl→Qh,lt_of_lt_of_le→Qi
def isV (k n b:Int):Prop:=k=8∨(k=1∧b≤n)
instance (k n b:Int):Decidable (isV k n b):=by unfold isV;infer_instance
abbrev Bec:=Int→Int→Int→TM×Int
def Zhb (p:TM×Int)(r:Int):Except Int (TM×Int):=if r - (Jv p.1.size:Int)<0 then .error 2 else if p.2=0 then .ok (p.1,r - (Jv p.1.size:Int))else .error p.2
mutual
def Zcz (G:Bec):TM→Int→Int→Except Int (TM×Int)
 | .node k n l,b,r=>if isV k n b then Zhb (G k n b) r else
  match Za7 G k 0 l b r with
  | .error c=> .error c
  | .ok (us,q)=> .ok (.node k n us,q)
def Za7 (G:Bec)(k:Int)(i:Nat):List TM→Int→Int→Except Int (List TM×Int)
 | [],_,r=> .ok ([],r)
 | t::l,b,r=>
  match Zcz G t (b+bnd k i) r with
  | .error c=> .error c
  | .ok (u,q)=>
   match Za7 G k (i+1) l b q with
   | .error c=> .error c
   | .ok (us,s)=> .ok (u::us,s)
end
theorem Zg3 (G:Bec)(k n:Int)(l:List TM)(b r:Int):Zcz G (.node k n l) b r=if isV k n b then Zhb (G k n b) r else
  match Za7 G k 0 l b r with
  | .error c=> .error c
  | .ok (us,q)=> .ok (.node k n us,q):=by rw[Zcz]
theorem Zj2 (G:Bec)(k:Int)(i:Nat)(b r:Int):Za7 G k i [] b r= .ok ([],r):=by rw[Za7]
theorem Zin (G:Bec)(k:Int)(i:Nat)(t:TM)(l:List TM)(b r:Int):Za7 G k i (t::l) b r=
  match Zcz G t (b+bnd k i) r with
  | .error c=> .error c
  | .ok (u,q)=>
   match Za7 G k (i+1) l b q with
   | .error c=> .error c
   | .ok (us,s)=> .ok (u::us,s):=by rw[Za7]
theorem Zkv (G:Bec):∀(l m:List TM) (k:Int) (i:Nat) (b r:Int),Za7 G k i (l++m) b r=
  match Za7 G k i l b r with
  | .error c=> .error c
  | .ok (us,q)=>
   match Za7 G k (i+l.length) m b q with
   | .error c=> .error c
   | .ok (vs,s)=> .ok (us++vs,s)
 | [],m,k,i,b,r=>by
  rw[List.nil_append,Zj2];simp only[List.length_nil,Nat.add_zero];cases h:Za7 G k i m b r with
  | error c=>rfl
  | ok p=>obtain⟨us,s⟩:=p;rfl
 | t::l,m,k,i,b,r=>by
  rw[List.cons_append,Zin,Zin];have e:i+1+l.length=i+(t::l).length:=by simp;omega
  cases Zcz G t (b+bnd k i) r with
  | error c=>rfl
  | ok p=>
   obtain⟨u,q⟩:=p;simp only[];rw[Zkv G l,e];cases Za7 G k (i+1) l b q with
   | error c=>rfl
   | ok p=>
    obtain⟨us,s⟩:=p;simp only[];cases Za7 G k (i+(t::l).length) m b s with
    | error c=>rfl
    | ok p=>obtain⟨vs,x⟩:=p;rfl
theorem Z0s (G:Bec)(k b r:Int){l:List TM}{i:Nat}(h:i<l.length){us:List TM}{q:Int}(hu:Za7 G k 0 (l.take i) b r= .ok (us,q)):Za7 G k 0 (l.take (i+1)) b r=
  match Zcz G l[i] (b+bnd k i) q with
  | .error c=> .error c
  | .ok (u,s)=> .ok (us++[u],s):=by
 rw[Zbc h,Zkv,hu];have e:0+(l.take i).length=i:=by simp;omega
 simp only[];rw[e,Zin];cases Zcz G l[i] (b+bnd k i) q with
 | error c=>rfl
 | ok p=>obtain⟨u,s⟩:=p;simp only[];rw[Zj2]
theorem Z27 (G:Bec)(k b r:Int){l:List TM}{i:Nat}{c:Int}(h:Za7 G k 0 (l.take i) b r= .error c):Za7 G k 0 l b r= .error c:=by
 have:=Zkv G (l.take i) (l.drop i) k 0 b r;rw[List.take_append_drop,h]at this;exact this
abbrev Put:=Int→Int→Int→TM
mutual
def Zjy (H:Put):TM→Int→TM
 | .node k n l,b=>if isV k n b then H k n b else .node k n (Zjx H k 0 l b)
def Zjx (H:Put)(k:Int)(i:Nat):List TM→Int→List TM
 | [],_=>[]
 | t::l,b=>Zjy H t (b+bnd k i)::Zjx H k (i+1) l b
end
theorem Zz0 (H:Put)(k n:Int)(l:List TM)(b:Int):Zjy H (.node k n l) b=if isV k n b then H k n b else .node k n (Zjx H k 0 l b):=by rw[Zjy]
theorem Z2j (H:Put)(k:Int)(i:Nat)(b:Int):Zjx H k i [] b=[]:=by rw[Zjx]
theorem Zzz (H:Put)(k:Int)(i:Nat)(t:TM)(l:List TM)(b:Int):Zjx H k i (t::l) b=Zjy H t (b+bnd k i)::Zjx H k (i+1) l b:=by rw[Zjx]
def Zn7 (k n b:Int):Prop:=isV k n b∧0≤n∧n≤1048576∧0≤b∧b≤200
def Z0w (G:Bec)(H:Put):Prop:=∀k n b,Zn7 k n b→G k n b=(H k n b,0)∨((G k n b).2=2∧Zg (H k n b)=false)
theorem Zv5 {G:Bec}{H:Put}(hf:Z0w G H):∀(t:TM) (b r:Int),Zg t=true→0≤b→b+t.depth≤200→0≤r→r≤8192→
    (∀u q,Zcz G t b r= .ok (u,q)→u=Zjy H t b∧r - (u.size:Int)≤q∧q≤r∧0≤q)∧
    (∀c,Zcz G t b r= .error c→c=2∧(Zg (Zjy H t b)=false∨r<((Zjy H t b).size:Int))):=by
  intro t;induction t using TM.ind with
  | h k n l ih=>
    intro b r hg hb0 hb1 hr0 hr1;obtain⟨g1,g2,g3,g4,g5,g6,g7⟩:=Zdv hg;rw[Zg3,Zz0];by_cases hv:isV k n b
    · rw[if_pos hv,if_pos hv];rw[J0]at hb1;have hvo:Zn7 k n b:=⟨hv,g4,g5,hb0,by omega⟩;obtain⟨p,hp⟩:∃p,G k n b=p:=⟨_,rfl⟩;have hF:=hf k n b hvo;rw[hp]at hF⊢;unfold Zhb;have ht1:=Z21 p.1.size;rcases hF with rfl|⟨h2,hno⟩
      · by_cases hl:r - (Jv (H k n b).size:Int)<0
        · rw[if_pos hl];refine⟨fun u q h=>(nomatch h),fun c h=> ?_⟩;injection h with h;subst h;exact⟨rfl,.inr (by simp only at ht1;omega)⟩
        · rw[if_neg hl,if_pos rfl];refine⟨fun u q h=> ?_,fun c h=>(nomatch h)⟩;injection h with h;injection h with h1 h2;subst h1;subst h2;simp only at ht1;exact⟨rfl,by dsimp only;omega,by dsimp only;omega,by dsimp only;omega⟩
      · rw[h2];by_cases hl:r - (Jv p.1.size:Int)<0
        · rw[if_pos hl];refine⟨fun u q h=>(nomatch h),fun c h=> ?_⟩;injection h with h;subst h;exact⟨rfl,.inl hno⟩
        · rw[if_neg hl,if_neg (by omega)];refine⟨fun u q h=>(nomatch h),fun c h=> ?_⟩;injection h with h;subst h;exact⟨rfl,.inl hno⟩
    · rw[if_neg hv,if_neg hv];rw[J0]at hb1;have hL:∀(m:List TM),(∀u∈m,u∈l)→∀(i:Nat) (r:Int),0≤r→r≤8192→
          (∀us q,Za7 G k i m b r= .ok (us,q)→us=Zjx H k i m b∧r - (Ja us:Int)≤q∧q≤r∧0≤q)∧
          (∀c,Za7 G k i m b r= .error c→c=2∧(Jl (Zjx H k i m b)=false∨r<(Ja (Zjx H k i m b):Int))):=by
        intro m;induction m with
        | nil=>
          intro _ i r h0 h1;rw[Zj2,Z2j];refine⟨fun us q h=> ?_,fun c h=>(nomatch h)⟩;injection h with h;injection h with h2 h3;subst h2;subst h3;exact⟨rfl,by rw[Zdd];omega,by omega,by omega⟩
        | cons u m ihm=>
          intro hm i r h0 h1;have hb01:=Zmq k i;have hdep:u.depth≤Jm l:=depth_mem (hm u Qa);obtain⟨A1,A2⟩:=ih u (hm u Qa) (b+bnd k i) r (g7 u (hm u Qa)) (by omega) (by omega) h0 h1;rw[Zin,Zzz,Zau];cases e:Zcz G u (b+bnd k i) r with
          | error c=>
            obtain⟨rfl,hc⟩:=A2 c e;refine⟨fun us q h=>(nomatch h),fun c h=> ?_⟩;injection h with h;subst h;refine⟨rfl, ?_⟩;rcases hc with hc|hc
            · left;rw[Z6,Qe,hc];rfl
            · right;omega
          | ok p=>
            obtain⟨v,q⟩:=p;obtain⟨rfl,a1,a2,a3⟩:=A1 v q e;obtain⟨B1,B2⟩:=ihm (fun v hv=>hm v (Qb _ hv)) (i+1) q a3 (by omega);simp only[];cases e2:Za7 G k (i+1) m b q with
            | error c=>
              obtain⟨rfl,hc⟩:=B2 c e2;refine⟨fun us q h=>(nomatch h),fun c h=> ?_⟩;injection h with h;subst h;refine⟨rfl, ?_⟩;rcases hc with hc|hc
              · left;rw[Z6,Qe,←Z6,hc];simp
              · right;omega
            | ok p=>
              obtain⟨vs,s⟩:=p;obtain⟨rfl,c1,c2,c3⟩:=B1 vs s e2;refine⟨fun us q h=> ?_,fun c h=>(nomatch h)⟩;injection h with h;injection h with h1 h2;subst h1;subst h2;exact⟨rfl,by rw[Zau];omega,by omega,by omega⟩
      obtain⟨B1,B2⟩:=hL l (fun _ h=>h) 0 r hr0 hr1;cases e:Za7 G k 0 l b r with
      | error c=>
        obtain⟨rfl,hc⟩:=B2 c e;refine⟨fun us q h=>(nomatch h),fun c h=> ?_⟩;injection h with h;subst h;refine⟨rfl, ?_⟩;rcases hc with hc|hc
        · left;rw[Zo,hc];simp
        · right;rw[J6];omega
      | ok p=>
        obtain⟨vs,s⟩:=p;obtain⟨rfl,c1,c2,c3⟩:=B1 vs s e;refine⟨fun us q h=> ?_,fun c h=>(nomatch h)⟩;injection h with h;injection h with h1 h2;subst h1;subst h2;exact⟨rfl,by rw[J6];omega,by omega,by omega⟩
where
 depth_mem {t:TM} {l:List TM} (h:t∈l):t.depth≤Jm l:=by
  induction l with
  | nil=>cases h
  | cons u l ih=>
   rw[J7];rcases List.mem_cons.1 h with rfl|h
   ·omega
   ·have:=ih h;omega
def Zlu (u:TM):TM×Int:=if Zb u then(u,0)else(.node 0 0 [],2)
def Zgl (G:Bec)(t:TM):TM×Int:=match Zcz G t 0 8192 with| .error c=>(.node 0 0 [],c)| .ok (u,_)=>if Zb u then(u,0)else(.node 0 0 [],2)
theorem Zud {G:Bec}{H:Put}(hf:Z0w G H){t:TM}(h:Zb t=true):Zgl G t=Zlu (Zjy H t 0):=by
 obtain⟨h1,h2,h3⟩:=Zh.1 h;obtain⟨A,B⟩:=Zv5 hf t 0 8192 h3 (by omega) (by omega) (by omega) (by omega);unfold Zgl Zlu;cases e:Zcz G t 0 8192 with
 | error c=>
  obtain⟨rfl,hc⟩:=B c e;have:Zb (Zjy H t 0)=false:=by
   cases e2:Zb (Zjy H t 0)with
   | false=>rfl
   | true=>
    obtain⟨s1,s2,s3⟩:=Zh.1 e2;rcases hc with hc|hc
    ·rw[hc]at s3;cases s3
    ·omega
  rw[this];rfl
 | ok p=>
  obtain⟨u,q⟩:=p;obtain⟨rfl,_⟩:=A u q e;rfl
theorem Zh2 {k n:Int}{l:List TM}{t:TM}(h:t∈l)(hs:Zb (.node k n l)=true):Zb t=true:=by
 obtain⟨s1,s2,s3⟩:=Zh.1 hs;rw[J6]at s1;rw[J0]at s2;have h1:=Zkj h;have h2:=Zv5.depth_mem h;exact Zh.2 ⟨by omega,by omega,(Zdv s3).2.2.2.2.2.2 t h⟩
structure Z75 (u T:TM) (long:Bool):Prop where
 yes:long=true→Zb u=false
 no:long=false→T=u
structure Z4 (g B:Nat) (a b:World):Prop where
 os:b.os=a.os
 tape:b.tape=a.tape
 output:b.output=a.output
 size:a.heap.size≤b.heap.size
 block:∀k,k<B→k≠g→b.heap[k]? =a.heap[k]?
theorem Z4.refl (g B:Nat)(w:World):Z4 g B w w:=⟨rfl,rfl,rfl,Qh _,fun _ _ _=>rfl⟩
theorem Z4.of {g B:Nat}{a b:World}(h:Below B a b):Z4 g B a b:=⟨h.os,h.tape,h.output,h.size,fun k hk _=>h.block k hk⟩
theorem Z4.trans {g B:Nat}{a b c:World}(h:Z4 g B a b)(k:Z4 g B b c):Z4 g B a c:=
 ⟨k.os.trans h.os,k.tape.trans h.tape,k.output.trans h.output,Nat.le_trans h.size k.size,fun i hi hg=>(k.block i hi hg).trans (h.block i hi hg)⟩
theorem Z4.mono {g B B':Nat}{w w':World}(h:Z4 g B w w')(hB:B'≤B):Z4 g B' w w':=⟨h.os,h.tape,h.output,h.size,fun k hk=>h.block k (Qi hk hB)⟩
theorem Z4.drew {g B:Nat}{a w:World}(h:Z4 g B a w):Z4 g B a w.drew:=⟨h.os,h.tape,h.output,h.size,h.block⟩
theorem Z4.alloc {g B:Nat}{a w:World}(h:Z4 g B a w)(hB:B≤w.heap.size)(o:Obj):Z4 g B a (w.alloc o):=
 h.trans (Z4.of ((Qf B w).alloc hB o))
theorem Z4.setCell {g B:Nat}{a w:World}(h:Z4 g B a w){p:Addr}(hp:B≤p.block)(u:Value):Z4 g B a (w.setCell p u):=
 h.trans (Z4.of ((Qf B w).setCell hp u))
theorem Z4.own {g B:Nat}{a w:World}(h:Z4 g B a w)(o:Nat)(u:Value):Z4 g B a (w.setCell ⟨g,o,none⟩ u):=
 h.trans ⟨rfl,rfl,rfl,by simp[World.setCell],fun k _ hk=>Below.heap_setCell _ _ _ _ hk⟩
theorem Z4.grown {g B:Nat}{a w w':World}{row:Option Nat}(h:Z4 g B a w)(hg:w.grownBy w' row)(hB:B≤w.heap.size)(hr:∀k,row=some k→B≤k):Z4 g B a w':=
 h.trans (Z4.of ((Qf B w).grown hg hB hr))
theorem Z4.cell {g B:Nat}{w w':World}(h:Z4 g B w w'){b o:Nat}(hb:b<B)(hg:b≠g):w'.cell? ⟨b,o,none⟩=w.cell? ⟨b,o,none⟩:=World.cell?_of_block (a:=⟨b,o,none⟩) (h.block b hb hg)
theorem Z4.below {g B A:Nat}{a b c:World}(h:Below A a b)(k:Z4 g B b c)(hA:A≤g)(hB:A≤B):Below A a c:=
 h.trans ⟨k.os,k.tape,k.output,k.size,fun i hi=>k.block i (by omega) (by omega)⟩
theorem Bk.near {w w':World}{b g B:Nat}{e:TypeId}{cs:Array Value}(h:Bk w b e cs)(hb:Z4 g B w w')(hB:b<B)(hg:b≠g):Bk w' b e cs:=(hb.block b hB hg).trans h
theorem Za.near {w w':World}{lo hi g B:Nat}{t:TM}{A:Option Addr}{cap:Nat}(h:Za w lo hi t A cap)(hb:Z4 g B w w')(hB:hi≤B)(hg:hi≤g∨g<lo):Za w' lo hi t A cap:=
 h.imp (fun b o h1 h2=>hb.cell (by omega) (by omega)) (Qh _) (Qh _)
theorem Z8.near {W W':World}{b g B:Nat}{k n:Int}{v:Value}(h:Z8 W b k n v)(hb:Z4 g B W W')(hB:b<B)(hg:b≠g):Z8 W' b k n v:=
 ⟨(hb.cell hB hg).trans h.c0,(hb.cell hB hg).trans h.c1,(hb.cell hB hg).trans h.c2,Qi h.lt hb.size⟩
theorem Zj4.near {w w':World}{lo hi g B:Nat}{A:Option Addr}{l:List TM}{i:Nat}{h:i<l.length}(hx:Zj4 w lo hi A l i h)(hb:Z4 g B w w')(hB:hi≤B)(hg:hi≤g):Zj4 w' lo hi A l i h:=by
 obtain⟨b,o,F,C,hA,h1,h2,⟨x0,x1,x2⟩,h4⟩:=hx;have e:∀q,w'.cell? ⟨b,q,none⟩=w.cell? ⟨b,q,none⟩:=fun q=>hb.cell (by omega) (by omega);exact⟨b,o,F,C,hA,h1,h2,⟨by rw[e,x0],by rw[e,x1],by rw[e,x2]⟩,h4.near hb hB (.inl hg)⟩
theorem Zk.near {w w':World}{base g:Nat}{e:TypeId}{v:Value}{ps:List (TM×Option Addr×Nat)}{P:Nat→Prop}(h:Zk w base e v ps P)(hb:Z4 g w.heap.size w w')(hg:g<base)(hP:∀b,P b→g<b):Zk w' base e v ps P:=by
 refine h.kept hb.size (h.row.kept (row:=some g) ⟨hb.os,hb.tape,hb.output,hb.size,fun k hk hne=>hb.block k hk (fun e=>hne (by rw[e]))⟩ ?_) (fun b hb'=>hb.block b (h.far b hb').1 (fun e=>by have:=hP b hb';omega));right
 intro e2;have:=(h.row.lt _ e2).1;omega
def Zfl (ls:List TM):Bec:=fun k n b=>if k=8 then(.node k n [],0)else if n - b<(ls.length:Int)then Jy (ls.getD (n - b).toNat (.node 0 0 [])) b 0 else(.node 1 (n - ls.length) [],0)
theorem Zn.leafK {w w':World}{k n:Int}(hb:Below w.heap.size w w'):Zn (.node k n [],0) w (.returned (.tuple #[.agg #[.int .i64 k,.int .i64 n,.slice none 0 0],.int .i64 0])) w':=
 ⟨none,0,rfl,Zas _ _ _ _,hb⟩
theorem Ztr (k:Int)(i:Nat)(w:World):Calls prog 164 #[.int .i64 k,.int .i64 (i:Int)] w fun e w'=>e= .returned (.int .i64 (bnd k i))∧w'=w:=by
 by_cases hi:i=1
 ·have t1:((i:Int)==1)=true:=by rw[hi];rfl
  by_cases h3:k=3
  ·have t2:(k==3)=true:=by simpa using h3
   have e:bnd k i=1:=by unfold bnd;rw[if_pos ⟨hi,.inl h3⟩]
   rw[e];clear hi h3 e;go_enter func164,ntmps164;go_wp2_with fail;go_ret;exact⟨rfl,rfl⟩
  ·have t2:(k==3)=false:=by simpa using h3
   by_cases h4:k=4
   ·have t3:(k==4)=true:=by simpa using h4
    have e:bnd k i=1:=by unfold bnd;rw[if_pos ⟨hi,.inr h4⟩]
    rw[e];clear hi h3 h4 e;go_enter func164,ntmps164;go_wp2_with fail;go_ret;exact⟨rfl,rfl⟩
   ·have t3:(k==4)=false:=by simpa using h4
    have e:bnd k i=0:=by unfold bnd;rw[if_neg (fun h=>h.2.elim h3 h4)]
    rw[e];clear hi h3 h4 e;go_enter func164,ntmps164;go_wp2_with fail;go_ret;exact⟨rfl,rfl⟩
 ·have t1:((i:Int)==1)=false:=by simp;omega
  have e:bnd k i=0:=by unfold bnd;rw[if_neg (fun h=>hi h.1)]
  rw[e];clear hi e;go_enter func164,ntmps164;go_wp2_with fail;go_ret;exact⟨rfl,rfl⟩
set_option maxHeartbeats 1000000 in
theorem Z08 (g1:Nat)(ls:List TM)(k n b:Int)(lo hi:Nat)(A:Option Addr)(cap:Nat)(w:World)(h1:w.cell? ⟨g1,0,none⟩=some (.slice A ls.length cap))(ha:Za w lo hi (.node 0 0 ls) A cap)(hhi:hi≤w.heap.size)(hS:Zi w)(hl:ls.length≤4000000000)(hv:Zn7 k n b):
  Calls prog 159 #[.agg #[.int .i64 k,.int .i64 n,.slice none 0 0],.int .i64 b,.pointer (some ⟨g1,0,none⟩)] w (Zn (Zfl ls k n b) w):=by
 have hlt:g1<w.heap.size:=World.block_lt_of_cell? w _ h1;obtain⟨hv0,hn0,hn1,hb0,hb1⟩:=hv;have HSS:=hid hS;have HA:=hid ha;have HW2:=hid (fun o1 o2=>((Qf w.heap.size w).alloc (Qh _) o1).alloc (by simp) o2);have HBZ:=hid (fun V (hV:Below ((w.alloc (.cells #[.int .i64 k,.int .i64 n,.slice none 0 0] 27)).alloc (.cells #[.int .i64 0,.int .i64 0,.slice none 0 0] 27)).heap.size ((w.alloc (.cells #[.int .i64 k,.int .i64 n,.slice none 0 0] 27)).alloc (.cells #[.int .i64 0,.int .i64 0,.slice none 0 0] 27)) V)=>(show Bk V (w.heap.size+1) 27 #[.int .i64 0,.int .i64 0,.slice none 0 0]from(Bk.last (w.alloc (.cells #[.int .i64 k,.int .i64 n,.slice none 0 0] 27)) 27 #[.int .i64 0,.int .i64 0,.slice none 0 0] (by simp)).below hV (by simp)));have hw1:IntKind.i64.wrap (n - b)=n - b:=IntWalk.i64_in _ (by omega);have hw2:IntKind.i64.wrap (n - (ls.length:Int))=n - (ls.length:Int):=IntWalk.i64_in _ (by omega);clear ha hS;by_cases hk:k=8
 ·have t1:(k==8)=true:=by simpa using hk
  have e:Zfl ls k n b=(.node k n [],0):=by unfold Zfl;rw[if_pos hk]
  rw[e];clear e hk HBZ HW2 hv0 hn0 hn1 hb0 hb1 hl;go_enter func159,ntmps159;go_wp2_with fail;refine bodyPost_ret (v:= .tuple #[.agg #[.int .i64 k,.int .i64 n,.slice none 0 0],.int .i64 0]) (by simp[results,results159,go_sem]) rfl ?_;exact Zn.leafK (by repeat first|exact Qf _ _|refine Qg ?_ (by simp) _|refine Below.alloc ?_ (by simp<;>omega) _)
 ·have t1:(k==8)=false:=by simpa using hk
  have hbn:b≤n:=by rcases hv0 with h|h;exact absurd h hk;exact h.2
  by_cases hm:n - b<(ls.length:Int)
  ·obtain⟨m,hmm⟩:∃m:Nat,n - b=(m:Int):=⟨(n - b).toNat,by omega⟩;have hml:m<ls.length:=by omega
   have e:Zfl ls k n b=Jy ls[m] b 0:=by
    unfold Zfl;rw[if_neg hk,if_pos hm,hmm];show Jy (ls.getD (m:Int).toNat _) b 0=_
    rw[Int.toNat_natCast,Qc,Qd hml];rfl
   rw[e];rw[hmm]at hw1 hm;have hm0:(0:Int)≤(m:Int):=by omega
   have t2:decide ((m:Int)<(ls.length:Int))=true:=decide_eq_true hm;obtain⟨gb,go,F,C,hA,hb1',hb2',⟨y0,y1,y2⟩,hnode⟩:=HA.out.sub m hml;subst hA;obtain⟨u,hu⟩:∃u,ls[m]=u:=⟨_,rfl⟩;rw[hu]at y0 y1 y2 hnode⊢;have hgb:gb<w.heap.size:=by omega
   have CL:=hid (fun V (hV:Below w.heap.size w V)=>Zt3 u b lo hi F C V (hnode.kept hV hhi) (by have:=hV.size;omega) (HSS.out.kept hV));obtain⟨x,c,hxc⟩:∃x c,Jy u b 0=(x,c):=⟨_,_,rfl⟩;rw[hxc]at CL⊢;clear hxc e hk hu hnode hv0 hn0 hn1 hb0 hb1 hl hbn hb1' hb2' hhi HA;unfold Zc at CL;go_enter func159,ntmps159;go_wp2_with fail;refine(CL.out _ (HW2.out _ _)).mono ?_;rintro e w2 ⟨A',cap',rfl,hx2,hb2⟩;rw[Zc];have hz2:=hb2.size;simp at hz2;have HB2:=hid ((HW2.out _ _).trans (hb2.mono (by simp<;>omega)));have BZ:=HBZ.out _ hb2;have HX2:=hid hx2;clear hb2 hx2;have d0:w2.cell? ⟨w.heap.size+1,0,none⟩=some (.int .i64 0):=BZ.cell 0;have d1:w2.cell? ⟨w.heap.size+1,1,none⟩=some (.int .i64 0):=BZ.cell 1;have d2:w2.cell? ⟨w.heap.size+1,2,none⟩=some (.slice none 0 0):=BZ.cell 2;have hfz:∀o,w2.frozen? ⟨w.heap.size+1,o,none⟩=false:=fun o=>BZ.cold o;have B5:=((BZ.at_ 0 (.int .i64 x.k)).at_ 1 (.int .i64 x.n)).at_ 2 (.slice A' x.l.length cap');have HS0:=hid (B5.cell 0);have HS1:=hid (B5.cell 1);have HS2:=hid (B5.cell 2);clear B5 BZ;go_wp2_with fail;refine bodyPost_ret (v:= .tuple #[.agg #[.int .i64 x.k,.int .i64 x.n,.slice A' x.l.length cap'],.int .i64 c]) (by simp[results,results159,go_sem,HS0.out,HS1.out,HS2.out]) rfl ?_;exact Zbh HB2.out (by omega) HX2.out (by simp)
  ·have t2:decide (n - b<(ls.length:Int))=false:=decide_eq_false hm;have e:Zfl ls k n b=(.node 1 (n - (ls.length:Int)) [],0):=by unfold Zfl;rw[if_neg hk,if_neg hm]
   rw[e];clear e hk hm HBZ HW2 hv0 hn0 hn1 hb0 hb1 hl hbn;go_enter func159,ntmps159;go_wp2_with fail;refine(Ztf _ _).mono ?_;rintro e w1 ⟨rfl,rfl⟩;go_wp2_with fail;refine bodyPost_ret (v:= .tuple #[.agg #[.int .i64 1,.int .i64 (n - (ls.length:Int)),.slice none 0 0],.int .i64 0]) (by simp[results,results159,go_sem]) rfl ?_;exact Zn.leafK (by repeat first|exact Qf _ _|refine Qg ?_ (by simp) _|refine Below.alloc ?_ (by simp<;>omega) _)
def Zs5 (ls:List TM):Put:=fun k n b=>if k=8 then .node k n []else if n - b<(ls.length:Int)then Zb5 b (ls.getD (n - b).toNat (.node 0 0 [])) 0 else .node 1 (n - ls.length) []
theorem Zy8 {a:TM}(ha:Zb a=true){y:Int}(h0:0≤y)(h1:y≤1048576):Jy a y 0=(Zb5 y a 0,0)∨((Jy a y 0).2=2∧Zg (Zb5 y a 0)=false):=by
 rw[Z11,Zer.2 ⟨h0,h1⟩,Zer.2 ⟨Int.le_refl 0,by omega⟩,ha];cases e:Zg (Zb5 y a 0)with
 | true=>exact .inl rfl
 | false=>exact .inr ⟨rfl,rfl⟩
theorem Zwq {ls:List TM}(h:ls.all Zb=true):Z0w (Zfl ls) (Zs5 ls):=by
 rintro k n b ⟨hv,hn0,hn1,hb0,hb1⟩;unfold Zfl Zs5;by_cases hk:k=8
 ·rw[if_pos hk,if_pos hk];exact .inl rfl
 ·rw[if_neg hk,if_neg hk];by_cases hm:n - b<(ls.length:Int)
  ·rw[if_pos hm,if_pos hm];have hbn:b≤n:=by rcases hv with h|h;exact absurd h hk;exact h.2
   have hml:(n - b).toNat<ls.length:=by omega
   rw[Qc,Qd hml];exact Zy8 (List.all_eq_true.1 h _ (List.getElem_mem hml)) hb0 (by omega)
  ·rw[if_neg hm,if_neg hm];exact .inl rfl
def Zce (t:TM)(l:List TM):TM×Int:=if Zb t && l.all Zb then Zlu (Zjy (Zs5 l) t 0)else(.node 0 0 [],5)
def Ze4 (k:Int)(l:List TM)(t:TM):TM:=l.foldr (fun a b=> .node k 0 [a,b]) t
theorem Zsw (k:Int)(a:TM)(l:List TM)(t:TM):Ze4 k (a::l) t= .node k 0 [a,Ze4 k l t]:=rfl
def Zck (k:Int)(l:List TM)(t:TM):TM×Int:=if 24<l.length then(.node 0 0 [],2)else if Zb t && l.all Zb then Zlu (Ze4 k l t)else(.node 0 0 [],5)
def Zz:TM→Nat
 | .node k _ l=>if k=3 then pisL l+1 else 0
where pisL:List TM→Nat
 | [_,b]=>Zz b
 | _=>0
theorem Zgu {t:TM}(h:t.k≠3):Zz t=0:=by
 obtain⟨k,n,l⟩:=t;rw[Zz,if_neg (show ¬ k=3 from h)]
theorem Zhu (n:Int)(a b:TM):Zz (.node 3 n [a,b])=Zz b+1:=by rw[Zz,if_pos rfl,Zz.pisL]
def Ju:Nat→TM→Option (List TM×TM)
 | 0,t=>some ([],t)
 | n+1,t=>if t.k=3 then(Ju n (t.l.getD 1 (.node 0 0 []))).map (fun p=>(t.l.getD 0 (.node 0 0 [])::p.1,p.2))else none
theorem Zim {n:Nat}{t:TM}(h:t.k≠3):Ju (n+1) t=none:=by
 rw[Ju,if_neg h]
theorem Zfs (n:Nat)(m:Int)(a b:TM):Ju (n+1) (.node 3 m [a,b])=(Ju n b).map (fun p=>(a::p.1,p.2)):=by
 rw[Ju];exact if_pos rfl
def Zt (t:TM)(n:Int):List TM×TM×Int:=
 if Zb t && decide (0≤n)then(if 24<n then([],.node 0 0 [],2)else match Ju n.toNat t with|some p=>(p.1,p.2,0)|none=>([],.node 0 0 [],6))else([],.node 0 0 [],5)
theorem Zdl {t:TM}(h:Zg t=true)(hk:t.k=3):∃n a b,t= .node 3 n [a,b]∧Zg a=true∧Zg b=true:=by
 obtain⟨k,n,l⟩:=t;obtain rfl:k=3:=hk;obtain⟨g1,g2,g3,g4,g5,g6,gp⟩:=Zdv h
 match l,g3,gp with
 | [a,b],_,gp=>exact⟨n,a,b,rfl,gp a Qa,gp b (Qb _ Qa)⟩
theorem Znc {n:Int}{a b:TM}(h:Zb (.node 3 n [a,b])=true):Zb a=true∧Zb b=true:=
 ⟨Zh2 Qa h,Zh2 (Qb _ Qa) h⟩
theorem Zjc:∀t:TM,Zz t≤t.depth:=by
 intro t;induction t using TM.ind with
 | h k n l ih=>
  by_cases hk:k=3
  ·subst hk;rw[Zz,if_pos rfl,J0];unfold Zz.pisL;split
   ·rename_i a b
    have:=ih b (by simp);rw[J7,J7,Zep];omega
   ·omega
  ·rw[Zgu (t:= .node k n l) hk];omega
def Z7 (n:Nat):List TM:=(List.range n).map fun(i:Nat)=>TM.node 1 ((n - 1 - i:Nat):Int) []
theorem Zar (n:Nat):(Z7 n).length=n:=by unfold Z7;simp
