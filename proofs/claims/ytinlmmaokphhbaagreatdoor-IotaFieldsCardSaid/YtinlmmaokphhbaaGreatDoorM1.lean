import Derived.Test.YtinlmmaokphhbaaGreatDoorRows
import Derived.WalkKit
import Derived.ProofKit
import Derived.Lib.Hide
import Derived.Maps.AppendAt
import Derived.Deep.AppendLies
import Derived.RegionTactic
import Derived.OwnWalk
import Derived.LoopTactic
import Derived.LoopN
namespace Go.Proofs.YtinlmmaokphhbaaGreatDoor
open Go.RowKit
set_option linter.unusedVariables false
open Lib(hid)
open Go.Proofs.Tryz
open _root_.List renaming getElem?_eq_getElem→Qa,getElem_map→Qb,eq_nil_of_length_eq_zero→Qc,getElem?_append_right→Qd,getElem?_append_left→Qe,sizeOf_lt_of_mem→Qf,flatMap_append→Qg,length_append→Qh,getElem_mem→Qi,cons_append→Qj,nil_append→Qk,length_map→Ql
open Go.World renaming cell?_setCell_other→Qm,cell?_of_block→Qn,setCell→Qo,ownsRow_nil→Qp
open _root_.Nat renaming zero_add→Qq,lt_of_lt_of_le→Qr,lt_or_ge→Qs,add_zero→Qt
open Go.RowKit.Below renaming refl→Qu,heap_setCell→Qv
open Go.Builtin renaming append_→Qw,firstCells→Qx
open _root_.Array renaming getElem?_eq_none→Qy
theorem Zkq{n:Nat}:n≤n:=Nat.le_refl n
inductive RT where
 | node (k a:Int) (s:ByteArray) (n:Int) (l:List RT)
namespace RT
def k:RT→Int| .node k _ _ _ _=>k
def a:RT→Int| .node _ a _ _ _=>a
def s:RT→ByteArray| .node _ _ s _ _=>s
def n:RT→Int| .node _ _ _ n _=>n
def l:RT→List RT| .node _ _ _ _ l=>l
theorem eta:∀t:RT,t= .node t.k t.a t.s t.n t.l
 | .node _ _ _ _ _=>rfl
theorem ind {P:RT→Prop}(h:∀k a s n l,(∀t∈l,P t)→P (.node k a s n l)):∀t,P t
 | .node k a s n l=>h k a s n l (fun t ht=>ind h t)
termination_by t=>SizeOf.sizeOf t
decreasing_by
 have:=Qf ht;simp;omega
end RT
mutual
def RT.size:RT→Nat
 | .node _ _ _ _ l=>Z3h l+1
def Z3h:List RT→Nat
 | []=>0
 | t::r=>t.size+Z3h r
end
mutual
def RT.depth:RT→Nat
 | .node _ _ _ _ l=>Zym l+1
def Zym:List RT→Nat
 | []=>0
 | t::r=>max t.depth (Zym r)
end
mutual
def same:RT→RT→Bool
 | .node k _ s n l,.node k' _ s' n' l'=>decide (k=k') && (decide (s=s') && (decide (n=n') && Z3g l l'))
def Z3g:List RT→List RT→Bool
 | [],[]=>true
 | t::r,t'::r'=>same t t' && Z3g r r'
 | _,_=>false
end
def Z8f (t:RT)(A:Option Addr)(cap:Nat):Value:= .agg #[.int .i64 t.k,.int .i64 t.a,.string t.s,.int .i64 t.n,.slice A t.l.length cap]
structure Zkw (w:World) (b o:Nat) (t:RT) (A:Option Addr) (cap:Nat):Prop where
 c0:w.cell? ⟨b,o,none⟩=some (.int .i64 t.k)
 c1:w.cell? ⟨b,o+1,none⟩=some (.int .i64 t.a)
 c2:w.cell? ⟨b,o+2,none⟩=some (.string t.s)
 c3:w.cell? ⟨b,o+3,none⟩=some (.int .i64 t.n)
 c4:w.cell? ⟨b,o+4,none⟩=some (.slice A t.l.length cap)
inductive Zcf (w:World) (P:Nat→Prop):RT→Option Addr→Nat→Prop where
  | mk (k a:Int) (s:ByteArray) (n:Int) (l:List RT) (A:Option Addr) (cap:Nat) (F:Nat→Option Addr) (C:Nat→Nat)
    (hs:s.size≤maxLen) (hl:l.length≤cap) (hm:cap≤maxLen)
    (hc:0<l.length→∃b o,A=some ⟨b,o,none⟩∧P b∧∀i (h:i<l.length),Zkw w b (o+i*5) l[i] (F i) (C i))
    (hn:∀i (h:i<l.length),Zcf w P l[i] (F i) (C i)):Zcf w P (.node k a s n l) A cap
theorem Zcf.imp {w w':World}{P P':Nat→Prop}(hw:∀b o,P b→w'.cell? ⟨b,o,none⟩=w.cell? ⟨b,o,none⟩)(hP:∀b,P b→P' b){t:RT}{A:Option Addr}{cap:Nat}(h:Zcf w P t A cap):Zcf w' P' t A cap:=by
 induction h with
 | mk k a s n l A cap F C hs hl hm hc _ ih=>
  refine .mk k a s n l A cap F C hs hl hm (fun h0=> ?_) ih;obtain⟨b,o,hA,hb,hx⟩:=hc h0;refine⟨b,o,hA,hP b hb,fun i h=> ?_⟩;obtain⟨x0,x1,x2,x3,x4⟩:=hx i h;exact⟨by rw[hw _ _ hb,x0],by rw[hw _ _ hb,x1],by rw[hw _ _ hb,x2],by rw[hw _ _ hb,x3],by rw[hw _ _ hb,x4]⟩
theorem Zcf.bounds {w:World}{P:Nat→Prop}{k a:Int}{s:ByteArray}{n:Int}{l:List RT}{A:Option Addr}{cap:Nat}(h:Zcf w P (.node k a s n l) A cap):s.size≤maxLen∧l.length≤cap∧cap≤maxLen:=by
 cases h with
 | mk k a s n l A cap F C hs hl hm hc hn=>exact⟨hs,hl,hm⟩
theorem Zcf.at_ {w:World}{P:Nat→Prop}{k a:Int}{s:ByteArray}{n:Int}{l:List RT}{A:Option Addr}{cap:Nat}(h:Zcf w P (.node k a s n l) A cap)(i:Nat)(hi':i<l.length):
  ∃b o F C,A=some ⟨b,o,none⟩∧P b∧Zkw w b (o+i*5) l[i] F C∧Zcf w P l[i] F C:=by
 cases h with
 | mk k a s n l A cap F C hs hl hm hc hn=>
  obtain⟨b,o,hA,h1,h3⟩:=hc (by omega);exact⟨b,o,F i,C i,hA,h1,h3 i hi',hn i hi'⟩
def Zbe (w:World)(lo hi:Nat)(t:RT)(A:Option Addr)(cap:Nat):Prop:=Zcf w (fun b=>lo≤b∧b<hi) t A cap
theorem Zbe.imp {w w':World}{lo hi lo' hi':Nat}(hw:∀b o,lo≤b→b<hi→w'.cell? ⟨b,o,none⟩=w.cell? ⟨b,o,none⟩)(h1:lo'≤lo)(h2:hi≤hi'){t:RT}{A:Option Addr}{cap:Nat}(h:Zbe w lo hi t A cap):Zbe w' lo' hi' t A cap:=
 Zcf.imp (fun b o hb=>hw b o hb.1 hb.2) (fun b hb=>⟨by omega,by omega⟩) h
theorem Zbe.kept {w w':World}{lo hi B:Nat}{t:RT}{A:Option Addr}{cap:Nat}(h:Zbe w lo hi t A cap)(hb:Below B w w')(hB:hi≤B):Zbe w' lo hi t A cap:=
 h.imp (fun b o _ h2=>hb.cell (p:=⟨b,o,none⟩) (by show b<B;omega)) Zkq Zkq
theorem Zbe.wide {w:World}{lo hi lo' hi':Nat}{t:RT}{A:Option Addr}{cap:Nat}(h:Zbe w lo hi t A cap)(h1:lo'≤lo)(h2:hi≤hi'):Zbe w lo' hi' t A cap:=
 h.imp (fun _ _ _ _=>rfl) h1 h2
theorem Zbe.bounds {w:World}{lo hi:Nat}{k a:Int}{s:ByteArray}{n:Int}{l:List RT}{A:Option Addr}{cap:Nat}(h:Zbe w lo hi (.node k a s n l) A cap):s.size≤maxLen∧l.length≤cap∧cap≤maxLen:=Zcf.bounds h
def Zpo (w:World)(lo hi:Nat)(A:Option Addr)(l:List RT)(i:Nat)(h:i<l.length):Prop:=
 ∃b o F C,A=some ⟨b,o,none⟩∧lo≤b∧b<hi∧Zkw w b (o+i*5) l[i] F C∧Zbe w lo hi l[i] F C
theorem Zbe.sub {w:World}{lo hi:Nat}{k a:Int}{s:ByteArray}{n:Int}{l:List RT}{A:Option Addr}{cap:Nat}(h:Zbe w lo hi (.node k a s n l) A cap)(i:Nat)(hi':i<l.length):Zpo w lo hi A l i hi':=by
 obtain⟨b,o,F,C,hA,hb,hx,hn⟩:=Zcf.at_ h i hi';exact⟨b,o,F,C,hA,hb.1,hb.2,hx,hn⟩
theorem Zkw.kept {w w':World}{b o:Nat}{t:RT}{A:Option Addr}{cap B:Nat}(h:Zkw w b o t A cap)(hb:Below B w w')(hB:b<B):Zkw w' b o t A cap:=by
 obtain⟨x0,x1,x2,x3,x4⟩:=h;have e:∀q,w'.cell? ⟨b,q,none⟩=w.cell? ⟨b,q,none⟩:=fun q=>hb.cell (p:=⟨b,q,none⟩) hB;exact⟨by rw[e,x0],by rw[e,x1],by rw[e,x2],by rw[e,x3],by rw[e,x4]⟩
theorem Zpo.kept {w w':World}{lo hi B:Nat}{A:Option Addr}{l:List RT}{i:Nat}{h:i<l.length}(hx:Zpo w lo hi A l i h)(hb:Below B w w')(hB:hi≤B):Zpo w' lo hi A l i h:=by
 obtain⟨b,o,F,C,hA,h1,h2,h3,h4⟩:=hx;exact⟨b,o,F,C,hA,h1,h2,h3.kept hb (by omega),h4.kept hb hB⟩
theorem Zbe.alloc {w:World}{lo hi:Nat}{t:RT}{A:Option Addr}{cap:Nat}(h:Zbe w lo hi t A cap)(hB:hi≤w.heap.size)(o:Obj):Zbe (w.alloc o) lo hi t A cap:=
 h.kept ((Qu hi w).alloc hB o) Zkq
theorem Zjj {a b:Nat}(h:a=b):Ending.returned (.int .i64 (a:Int))= .returned (.int .i64 (b:Int)):=by rw[h]
theorem Z4h {a b:Nat}(h:a=b):Value.int .i64 (a:Int)= .int .i64 (b:Int):=by rw[h]
theorem Zk6 {x y:Int}(h:x=y):Value.int .i64 x= .int .i64 y:=by rw[h]
def Jv (n:Nat):Nat:=min n 8193
theorem Z5x {n:Nat}(h:n≤8192):Jv n=n:=by unfold Jv;omega
theorem Z5v {n:Nat}(h:8192<n):Jv n=8193:=by unfold Jv;omega
theorem Z22 {n:Nat}(h:n≤8192):Jv (n+1+0)=n+1:=by unfold Jv;omega
theorem Z5w (n:Nat):Jv n≤8193:=by unfold Jv;omega
theorem Z21 (n:Nat):Jv n≤n:=by unfold Jv;omega
theorem Z20 (a b:Nat):Jv (Jv a+b)=Jv (a+b):=by unfold Jv;omega
theorem Z0p {a b:Nat}(h:8192<Jv a)(hab:a≤b):Jv a=Jv b:=by unfold Jv at*;omega
def Zgd (p:RT×Option Addr×Nat):List Value:=[.int .i64 p.1.k,.int .i64 p.1.a,.string p.1.s,.int .i64 p.1.n,.slice p.2.1 p.1.l.length p.2.2]
def Zi3 (ps:List (RT×Option Addr×Nat)):List Value:=ps.flatMap Zgd
theorem Zwt (ps:List (RT×Option Addr×Nat))(p:RT×Option Addr×Nat):Zi3 (ps++[p])=Zi3 ps++Zgd p:=by
 unfold Zi3;rw[Qg];simp
theorem Zs6:∀(ps:List (RT×Option Addr×Nat)) (j r:Nat) (h:j<ps.length),r<5→(Zi3 ps)[j*5+r]? =(Zgd ps[j])[r]?
 | p::ps,0,r,_,hr=>by
  show(Zgd p++Zi3 ps)[0*5+r]? =_
  rw[Qe (by simp[Zgd];omega)];simp
 | p::ps,j+1,r,h,hr=>by
  show(Zgd p++Zi3 ps)[(j+1)*5+r]? =_
  rw[Qd (by simp[Zgd];omega)];have e:(j+1)*5+r - (Zgd p).length=j*5+r:=by simp[Zgd];omega
  rw[e,Zs6 ps j r (by simpa using h) hr];rfl
structure Zbb (w:World) (base:Nat) (e:TypeId) (v:Value) (ps:List (RT×Option Addr×Nat)) (P:Nat→Prop):Prop where
 row:w.ownsRow base e 5 v ps.length (Zi3 ps)
 far:∀b,P b→b<w.heap.size∧v.ownBlock≠some b
 node:∀p∈ps,Zcf w P p.1 p.2.1 p.2.2
theorem Zbb.nil (w:World)(base:Nat)(e:TypeId):Zbb w base e (.slice none 0 0) [] (fun _=>False):=
 ⟨Qp _ _ _ _,fun _ h=>h.elim,fun _ h=>by cases h⟩
theorem Zbb.kept {w w':World}{base:Nat}{e:TypeId}{v:Value}{ps:List (RT×Option Addr×Nat)}{P:Nat→Prop}(h:Zbb w base e v ps P)(hz:w.heap.size≤w'.heap.size)
    (hr:w'.ownsRow base e 5 v ps.length (Zi3 ps)) (hc:∀b,P b→w'.heap[b]? =w.heap[b]?):Zbb w' base e v ps P:=
  ⟨hr,fun b hb=>⟨Qr (h.far b hb).1 hz,(h.far b hb).2⟩,fun p hp=>(h.node p hp).imp (fun b o hb=>Qn (a:=⟨b,o,none⟩) (hc b hb)) (fun _ h=>h)⟩
theorem Zbb.below {w w':World}{base:Nat}{e:TypeId}{v:Value}{ps:List (RT×Option Addr×Nat)}{P:Nat→Prop}(h:Zbb w base e v ps P)(hb:Below w.heap.size w w'):Zbb w' base e v ps P:=
 h.kept hb.size (h.row.kept (row:=none) ⟨hb.os,hb.tape,hb.output,hb.size,fun k hk _=>hb.block k hk⟩ (by cases hv:v.ownBlock<;>simp)) (fun b hb'=>hb.block b (h.far b hb').1)
theorem Zbb.alloc {w:World}{base:Nat}{e:TypeId}{v:Value}{ps:List (RT×Option Addr×Nat)}{P:Nat→Prop}(h:Zbb w base e v ps P)(o:Obj):Zbb (w.alloc o) base e v ps P:=
 h.below ((Qu _ _).alloc Zkq _)
theorem Zbb.setCell {w:World}{base:Nat}{e:TypeId}{v:Value}{ps:List (RT×Option Addr×Nat)}{P:Nat→Prop}(h:Zbb w base e v ps P){a:Addr}(ha:a.block<base)(hP:∀b,P b→b≠a.block)(u:Value):Zbb (w.setCell a u) base e v ps P:=
 h.kept (by simp[Qo]) (ownsRow_setCell_below h.row ha u) (fun b hb=>Qv w a u b (hP b hb))
theorem Zbb.push {w w':World}{base:Nat}{e:TypeId}{v v':Value}{ps:List (RT×Option Addr×Nat)}{P Pn:Nat→Prop}{p:RT×Option Addr×Nat}(h:Zbb w base e v ps P)
    (hn:Zcf w Pn p.1 p.2.1 p.2.2) (hf:∀b,Pn b→b<w.heap.size∧v.ownBlock≠some b)
    (hr:w'.ownsRow base e 5 v' (ps.length+1) (Zi3 ps++Zgd p)) (hg:w.grownBy w' v.ownBlock) (ho:v'.ownBlock=v.ownBlock∨v'.ownBlock=some w.heap.size):Zbb w' base e v' (ps++[p]) (fun b=>P b∨Pn b):=by
  have hb:∀b,P b∨Pn b→b<w.heap.size∧v.ownBlock≠some b:=fun b hb=>hb.elim (h.far b) (hf b);have hcell:∀b o,P b∨Pn b→w'.cell? ⟨b,o,none⟩=w.cell? ⟨b,o,none⟩:=fun b o hb'=>Qn (a:=⟨b,o,none⟩) (hg.block b (hb b hb').1 (fun e=>(hb b hb').2 e.symm));refine⟨by rw[Zwt,Qh];exact hr,fun b hb'=>⟨Qr (hb b hb').1 hg.size,fun e=> ?_⟩,fun q hq=> ?_⟩
  · rcases ho with ho|ho
    · exact(hb b hb').2 (ho.symm.trans e)
    · have:=(hb b hb').1;rw[ho]at e;injection e with e;omega
  · rcases List.mem_append.1 hq with hq|hq
    · exact(h.node q hq).imp (fun b o hb'=>hcell b o (.inl hb')) (fun b hb'=> .inl hb')
    · obtain rfl:q=p:=by simpa using hq
      exact hn.imp (fun b o hb'=>hcell b o (.inr hb')) (fun b hb'=> .inr hb')
theorem Zbb.parent {w:World}{base lo:Nat}{e:TypeId}{A:Option Addr}{cap:Nat}{ps:List (RT×Option Addr×Nat)}{P:Nat→Prop}(h:Zbb w base e (.slice A ps.length cap) ps P)(hlo:lo≤base)(hP:∀b,P b→lo≤b)
    (k a:Int) (s:ByteArray) (n:Int) (hs:s.size≤maxLen):Zbe w lo w.heap.size (.node k a s n (ps.map (·.1))) A cap:=by
  have hcap:ps.length≤cap∧cap≤maxLen:=by
    rcases h.row.2 with ⟨h1,h2⟩|⟨g,c,cur,h1,_,_,h2,h3,_⟩
    · injection h1 with _ h3 h4;subst h4;omega
    · injection h1 with _ _ h4;subst h4;exact⟨h2,h3⟩
  have hlen:(ps.map (·.1)).length=ps.length:=Ql _;have hnode:∀i (hi:i<(ps.map (·.1)).length),Zcf w (fun b=>lo≤b∧b<w.heap.size) (ps.map (·.1))[i] ((ps[i]?.map fun p=>p.2.1).getD none) ((ps[i]?.map fun p=>p.2.2).getD 0):=by
    intro i hi;have hi':i<ps.length:=by omega
    rw[Qa hi',Qb];exact(h.node _ (Qi hi')).imp (fun _ _ _=>rfl) (fun b hb=>⟨hP b hb,(h.far b hb).1⟩)
  refine Zcf.mk k a s n _ A cap (fun i=>(ps[i]?.map fun p=>p.2.1).getD none) (fun i=>(ps[i]?.map fun p=>p.2.2).getD 0) hs (by omega) hcap.2 (fun h0=> ?_) hnode;rcases h.row.2 with ⟨h1,h2⟩|⟨g,c,cur,h1,hbg,hg,_⟩
  · omega
  · injection h1 with h1 _ _;subst h1;refine⟨g,0,rfl,⟨by omega, ?_⟩,fun i hi=> ?_⟩
    · rcases Qs g w.heap.size with hlt|hge
      · exact hlt
      · rw[Qy hge]at hg;cases hg
    · have hi':i<ps.length:=by omega
      have hat:=fun r (hr:r<5)=>(h.row.cellAt (i*5+r) (by omega)).trans (Zs6 ps i r hi' hr);have e:(ps.map (·.1))[i]=ps[i].1:=Qb _;rw[e,Qa hi'];have a0:=hat 0 (by omega);rw[Qt]at a0;exact⟨by rw[Qq,a0];rfl,by rw[Qq,hat 1 (by omega)];rfl,by rw[Qq,hat 2 (by omega)];rfl,by rw[Qq,hat 3 (by omega)];rfl,by rw[Qq,hat 4 (by omega)];rfl⟩
def Src (w:World)(size:Nat)(A:Option Addr)(m:Nat)(news:List Value):Prop:=
 news.length=m*size∧(0<m→∃ad,A=some ad∧∀j u,news[j]? =some u→w.cell? (ad.add j)=some u)
def Zfa (w:World)(base:Nat)(e:TypeId)(size:Nat)(v:Value)(n:Nat)(xs:List Value)(v':Value)(w':World):Prop:=
 w'.ownsRow base e size v' n xs∧w.grownBy w' v.ownBlock∧(v'.ownBlock=v.ownBlock∨v'.ownBlock=some w.heap.size)
theorem Z5s {Q:Program}(w:World)(base:Nat)(t ty e:TypeId)(i:TypeInfo)(z:Value)(size bytes:Nat)(ht:Q.underlying t=some (.slice e))(hi:Q.info? e=some i)(hz:i.zero=some z)
    (hsize:i.size=size) (hby:i.bytes=bytes) (hzs:z.cells.size=size) (hsz:0<size) (v:Value) (n:Nat) (xs:List Value) (hown:w.ownsRow base e size v n xs)
    (A:Option Addr) (m c:Nat) (news:List Value) (hs:Src w size A m news) (h1:∀u∈news,u.oneCell'=true) (h63:n+m≤maxLen) (hbytes:(n+m)*bytes≤140737488355328) (hbase:base≤w.heap.size):
    ∃v' w',(Qw #[t,t] ty #[v,.slice A m c]).run Q w= .ok v' w'∧Zfa w base e size v (n+m) (xs++news) v' w':=by
  obtain⟨hl,hc⟩:=hs;cases A with
  | none=>
    have hm:m=0:=by
      cases m with
      | zero=>rfl
      | succ m=>obtain⟨ad,h,_⟩:=hc (by omega);cases h
    subst hm;obtain rfl:news=[]:=Qc (by rw[hl];omega);refine⟨v,w, ?_,by simpa using hown,World.grownBy.refl w _,.inl rfl⟩;rcases hown.2 with ⟨rfl,rfl⟩|⟨g,cap,cur,rfl,_,_,hnc,_⟩
    · simp[Qw,run_underlying ht,Go.sizeOf,typeInfo,hi,Builtin.lenOf,Qx]
    · simp[Qw,run_underlying ht,Go.sizeOf,typeInfo,hi,Builtin.lenOf,Qx,hnc,storeCells]
  | some ad=>
    have hnews:∀j u,news[j]? =some u→w.cell? (ad.add j)=some u:=by
      intro j u hu;cases m with
      | zero=>
        obtain rfl:news=[]:=Qc (by rw[hl];omega);cases hu
      | succ m=>
        obtain⟨ad',h,hx⟩:=hc (by omega);cases h
        exact hx j u hu
    obtain⟨v',w',hr,h2,h3,_,h5⟩:=run_append_own_at (P:=Q) w base t ty e i z size bytes ht hi hz hsize hby hzs hsz v n xs hown ad m c news hl hnews h1 h63 hbytes hbase;exact⟨v',w',hr,h2,h3,h5⟩
theorem Z0u {Q:Program}{w:World}{o:Oper}{a:Act}{K:Act→World→Prop}{R:Exit→Act→World→Prop}(s x:Operand)(t:TypeId)
    (ho:o.op= .call {callee:= .builtin .append,args:= #[s,x],argTypes:= #[t,t]})
    (base:Nat) (e:TypeId) (i:TypeInfo) (z:Value) (size bytes:Nat) (ht:Q.underlying t=some (.slice e)) (hi:Q.info? e=some i) (hz:i.zero=some z)
    (hsize:i.size=size) (hby:i.bytes=bytes) (hzs:z.cells.size=size) (hsz:0<size) (v:Value) (n:Nat) (xs:List Value) (hv:a.eval s=v) (hown:w.ownsRow base e size v n xs)
    (A:Option Addr) (m c:Nat) (news:List Value) (hx:a.eval x= .slice A m c) (hs:Src w size A m news) (h1:∀u∈news,u.oneCell'=true) (h63:n+m≤maxLen) (hbytes:(n+m)*bytes≤140737488355328) (hbase:base≤w.heap.size)
    (h:∀v' w',Zfa w base e size v (n+m) (xs++news) v' w'→K (a.put o.dst v') w'):o.wp Q a w K R:=by
  obtain⟨v',w',hr,ha⟩:=Z5s w base t o.type e i z size bytes ht hi hz hsize hby hzs hsz v n xs hown A m c news hs h1 h63 hbytes hbase;unfold Oper.wp execOp;simp only[ho,resolve,invoke,builtin,Sem.run_bind,Sem.run_pure,Result.andThen_ok,List.map_toArray,List.map_cons,List.map_nil,hv,hx,hr];exact h v' w' ha
theorem Jb {Q:Program}{w:World}{ops:Array Oper}{rest:List Oper}{o:Oper}{a:Act}{R:Exit→Act→World→Prop}(hgd:o.guard=none)(s x:Operand)(t:TypeId)
    (ho:o.op= .call {callee:= .builtin .append,args:= #[s,x],argTypes:= #[t,t]})
    (base:Nat) (e:TypeId) (i:TypeInfo) (z:Value) (size bytes:Nat) (ht:Q.underlying t=some (.slice e)) (hi:Q.info? e=some i) (hz:i.zero=some z)
    (hsize:i.size=size) (hby:i.bytes=bytes) (hzs:z.cells.size=size) (hsz:0<size) (v:Value) (n:Nat) (xs:List Value) (hv:a.eval s=v) (hown:w.ownsRow base e size v n xs)
    (A:Option Addr) (m c:Nat) (news:List Value) (hx:a.eval x= .slice A m c) (hs:Src w size A m news) (h1:∀u∈news,u.oneCell'=true) (h63:n+m≤maxLen) (hbytes:(n+m)*bytes≤140737488355328) (hbase:base≤w.heap.size)
    (h:∀v' w',Zfa w base e size v (n+m) (xs++news) v' w'→wpList Q ops R rest (a.put o.dst v') w'):wpList Q ops R (o::rest) a w:=
  wpList_plain hgd fun _ hK=>Z0u s x t ho base e i z size bytes ht hi hz hsize hby hzs hsz v n xs hv hown A m c news hx hs h1 h63 hbytes hbase fun v' w' ha=>hK _ _ (h v' w' ha)
theorem Zdm {Q:Program}{w:World}{ops:Array Oper}{o:Oper}{a:Act}{K:Act→World→Prop}{R:Exit→Act→World→Prop}{E:Prop}(hgd:o.guard=none)(s x:Operand)(t:TypeId)
    (ho:o.op= .call {callee:= .builtin .append,args:= #[s,x],argTypes:= #[t,t]})
    (base:Nat) (e:TypeId) (i:TypeInfo) (z:Value) (size bytes:Nat) (ht:Q.underlying t=some (.slice e)) (hi:Q.info? e=some i) (hz:i.zero=some z)
    (hsize:i.size=size) (hby:i.bytes=bytes) (hzs:z.cells.size=size) (hsz:0<size) (v:Value) (n:Nat) (xs:List Value) (hv:a.eval s=v) (hown:w.ownsRow base e size v n xs)
    (A:Option Addr) (m c:Nat) (news:List Value) (hx:a.eval x= .slice A m c) (hs:Src w size A m news) (h1:∀u∈news,u.oneCell'=true) (h63:n+m≤maxLen) (hbytes:(n+m)*bytes≤140737488355328) (hbase:base≤w.heap.size)
    (h:∀v' w',Zfa w base e size v (n+m) (xs++news) v' w'→K (a.put o.dst v') w'):if Region.wanted o (yielded ops a.tmps)=true then Oper.wp Q o a w K R else E:=by
  rw[if_pos (by simp[Region.wanted,hgd])];exact Z0u s x t ho base e i z size bytes ht hi hz hsize hby hzs hsz v n xs hv hown A m c news hx hs h1 h63 hbytes hbase h
theorem Z5t (w:World)(cs:Array Value)(t:TypeId):Src (w.alloc (.cells cs t)) cs.size (some ⟨w.heap.size,0,none⟩) 1 cs.toList:=
 ⟨by simp,fun _=>⟨_,rfl,World.news_of_block (heap_alloc_new w _)⟩⟩
theorem Zai (w:World)(cs:Array Value)(t:TypeId){g size:Nat}(hg:g=w.heap.size)(hs:cs.size=size):Src (w.alloc (.cells cs t)) size (some ⟨g,0,none⟩) 1 cs.toList:=by
 subst hg;subst hs;exact Z5t w cs t
def Bk (w:World)(g:Nat)(e:TypeId)(cs:Array Value):Prop:=w.heap[g]? =some (.cells cs e (0,0))
theorem Bk.lt {w:World}{g:Nat}{e:TypeId}{cs:Array Value}(h:Bk w g e cs):g<w.heap.size:=by
 rcases Qs g w.heap.size with hlt|hge
 ·exact hlt
 ·unfold Bk at h;rw[Qy hge]at h;cases h
theorem Bk.cell {w:World}{g:Nat}{e:TypeId}{cs:Array Value}(h:Bk w g e cs)(i:Nat):w.cell? ⟨g,i,none⟩=cs[i]? :=cell_of_row w g i cs e (0,0) h
theorem Bk.cold {w:World}{g:Nat}{e:TypeId}{cs:Array Value}(h:Bk w g e cs)(i:Nat):w.frozen? ⟨g,i,none⟩=false:=by
 have h':w.heap[g]? =_:=h;simp[World.frozen?,h']
theorem Bk.new (w:World)(e:TypeId)(cs:Array Value):Bk (w.alloc (.cells cs e)) w.heap.size e cs:=heap_alloc_new w _
theorem Bk.alloc {w:World}{g:Nat}{e:TypeId}{cs:Array Value}(h:Bk w g e cs)(o:Obj):Bk (w.alloc o) g e cs:=(Below.heap_alloc w o g h.lt).trans h
theorem Bk.below {w w':World}{g B:Nat}{e:TypeId}{cs:Array Value}(h:Bk w g e cs)(hb:Below B w w')(hg:g<B):Bk w' g e cs:=(hb.block g hg).trans h
theorem Bk.far {w:World}{g:Nat}{e:TypeId}{cs:Array Value}(h:Bk w g e cs){a:Addr}(ha:g≠a.block)(u:Value):Bk (w.setCell a u) g e cs:=(Qv w a u g ha).trans h
theorem Bk.at_ {w:World}{g:Nat}{e:TypeId}{cs:Array Value}(h:Bk w g e cs)(i:Nat)(u:Value):Bk (w.setCell ⟨g,i,none⟩ u) g e (cs.setIfInBounds i u):=by
 have h':w.heap[g]? =_:=h;unfold Bk;simp[Qo,Array.getElem?_modify,h']
theorem Bk.grown {w w':World}{g:Nat}{e:TypeId}{cs:Array Value}{row:Option Nat}(h:Bk w g e cs)(hg:w.grownBy w' row)(hr:some g≠row):Bk w' g e cs:=(hg.block g h.lt hr).trans h
theorem Bk.five {w:World}{g:Nat}{e:TypeId}{a0 a1 a2 a3 a4:Value}(h:Bk w g e #[a0,a1,a2,a3,a4])(v0 v1 v2 v3 v4:Value):
    (w.setCell ⟨g,0,none⟩ v0).cell? ⟨g,0,none⟩=some v0∧((w.setCell ⟨g,0,none⟩ v0).setCell ⟨g,1,none⟩ v1).cell? ⟨g,1,none⟩=some v1∧
    (((w.setCell ⟨g,0,none⟩ v0).setCell ⟨g,1,none⟩ v1).setCell ⟨g,2,none⟩ v2).cell? ⟨g,2,none⟩=some v2∧
    ((((w.setCell ⟨g,0,none⟩ v0).setCell ⟨g,1,none⟩ v1).setCell ⟨g,2,none⟩ v2).setCell ⟨g,3,none⟩ v3).cell? ⟨g,3,none⟩=some v3∧
    (((((w.setCell ⟨g,0,none⟩ v0).setCell ⟨g,1,none⟩ v1).setCell ⟨g,2,none⟩ v2).setCell ⟨g,3,none⟩ v3).setCell ⟨g,4,none⟩ v4).cell? ⟨g,4,none⟩=some v4:=by
  have k0:=h.at_ 0 v0;have k1:=k0.at_ 1 v1;have k2:=k1.at_ 2 v2;have k3:=k2.at_ 3 v3;have k4:=k3.at_ 4 v4;exact⟨k0.cell 0,k1.cell 1,k2.cell 2,k3.cell 3,k4.cell 4⟩
theorem Zbe.five {w:World}{lo hi g:Nat}{t:RT}{A:Option Addr}{cap:Nat}(h:Zbe w lo hi t A cap)(hg:g<lo)(v0 v1 v2 v3 v4:Value):
  Zbe (((((w.setCell ⟨g,0,none⟩ v0).setCell ⟨g,1,none⟩ v1).setCell ⟨g,2,none⟩ v2).setCell ⟨g,3,none⟩ v3).setCell ⟨g,4,none⟩ v4) lo hi t A cap:=by
 refine h.imp (fun b o h1 _=> ?_) Zkq Zkq;have hne:∀o',(⟨g,o',none⟩:Addr)≠⟨b,o,none⟩:=fun o' e=>by injection e;omega
 rw[Qm _ _ _ _ (hne _),Qm _ _ _ _ (hne _),Qm _ _ _ _ (hne _),Qm _ _ _ _ (hne _),Qm _ _ _ _ (hne _)]
def Z8r (Q:Nat→Bool)(n:Nat)(r:Int):Prop:=(r= -1∧∀i,i<n→Q i=false)∨(0≤r∧∃i,i<n∧Q i=true)
def Zv (Q:Nat→Bool):Nat→Bool
 | 0=>true
 | n+1=>Zv Q n && Q n
theorem Zay {Q:Nat→Bool}:∀{n:Nat},Zv Q n=true↔∀i,i<n→Q i=true
 | 0=>by simp[Zv]
 | n+1=>by
  rw[Zv,Bool.and_eq_true,Zay];constructor
  ·rintro⟨h1,h2⟩ i hi;by_cases h:i<n
   ·exact h1 i h
   ·obtain rfl:i=n:=by omega
    exact h2
  ·exact fun h=>⟨fun i hi=>h i (by omega),h n (by omega)⟩
def Zwb (w:World)(g:FuncId)(ps:List Value)(l:List RT)(Q:Nat→Bool):Prop:=
 ∀i (h:i<l.length) (lo hi:Nat) (F:Option Addr) (C:Nat) (w':World),Below w.heap.size w w'→Zbe w' lo hi l[i] F C→hi≤w'.heap.size→
  Calls prog g (⟨Z8f l[i] F C::ps⟩:Array Value) w' fun e w''=>e= .returned (.bool (Q i))∧Below w'.heap.size w' w''
def Zqk (w:World)(lo hi:Nat)(A:Option Addr)(l:List RT):Prop:=∀i (h:i<l.length),Zpo w lo hi A l i h
theorem Zqk.kept {w w':World}{lo hi B:Nat}{A:Option Addr}{l:List RT}(h:Zqk w lo hi A l)(hb:Below B w w')(hB:hi≤B):Zqk w' lo hi A l:=fun i hi'=>(h i hi').kept hb hB
theorem Zwb.kept {w w':World}{g:FuncId}{ps:List Value}{l:List RT}{Q:Nat→Bool}(h:Zwb w g ps l Q)(hb:Below w.heap.size w w'):Zwb w' g ps l Q:=
 fun i hi lo hi' F C W hW=>h i hi lo hi' F C W (hb.trans (hW.mono hb.size))
def Zqn (Q:Nat→Bool)(n:Nat)(w:World)(e:Ending)(w':World):Prop:=∃r:Int,e= .returned (.int .i64 r)∧Z8r Q n r∧Below w.heap.size w w'
inductive TM where
 | node (k n:Int) (l:List TM)
namespace TM
def k:TM→Int| .node k _ _=>k
def n:TM→Int| .node _ n _=>n
def l:TM→List TM| .node _ _ l=>l
theorem eta:∀t:TM,t= .node t.k t.n t.l
 | .node _ _ _=>rfl
theorem ind {P:TM→Prop}(h:∀k n l,(∀t∈l,P t)→P (.node k n l)):∀t,P t
 | .node k n l=>h k n l (fun t ht=>ind h t)
termination_by t=>SizeOf.sizeOf t
decreasing_by
 have:=Qf ht;simp;omega
end TM
mutual
def TM.size:TM→Nat
 | .node _ _ l=>Ja l+1
def Ja:List TM→Nat
 | []=>0
 | t::r=>t.size+Ja r
end
mutual
def TM.depth:TM→Nat
 | .node _ _ l=>Jm l+1
def Jm:List TM→Nat
 | []=>0
 | t::r=>max t.depth (Jm r)
end
mutual
def Jw:TM→TM→Bool
 | .node k n l,.node k' n' l'=>decide (k=k') && (decide (n=n') && Zjo l l')
def Zjo:List TM→List TM→Bool
 | [],[]=>true
 | t::r,t'::r'=>Jw t t' && Zjo r r'
 | _,_=>false
end
theorem J6 (k n:Int)(l:List TM):(TM.node k n l).size=Ja l+1:=by rw[TM.size]
theorem J0 (k n:Int)(l:List TM):(TM.node k n l).depth=Jm l+1:=by rw[TM.depth]
theorem Zdd:Ja []=0:=by rw[Ja]
theorem Zau (t:TM)(r:List TM):Ja (t::r)=t.size+Ja r:=by rw[Ja]
theorem Zep:Jm []=0:=by rw[Jm]
theorem J7 (t:TM)(r:List TM):Jm (t::r)=max t.depth (Jm r):=by rw[Jm]
theorem Z0q (t:TM):0<t.size:=by rw[t.eta,J6];omega
theorem Zfr (l r:List TM):Ja (l++r)=Ja l+Ja r:=by
 induction l with
 | nil=>rw[Qk,Zdd];omega
 | cons t l ih=>rw[Qj,Zau,Zau,ih];omega
theorem Zbl (l r:List TM):Jm (l++r)=max (Jm l) (Jm r):=by
 induction l with
 | nil=>rw[Qk,Zep];omega
 | cons t l ih=>rw[Qj,J7,J7,ih];omega
theorem Zem (l:List TM):l.length≤Ja l:=by
 induction l with
 | nil=>simp
 | cons t l ih=>rw[Zau];have:=Z0q t;simp;omega
theorem Zbc {l:List TM}{i:Nat}(h:i<l.length):l.take (i+1)=l.take i++[l[i]]:=by
 rw[List.take_succ_eq_append_getElem h]
theorem Zex {l:List TM}{i:Nat}(h:i<l.length):Ja (l.take (i+1))=Ja (l.take i)+l[i].size:=by
 rw[Zbc h,Zfr,Zau,Zdd];omega
theorem Zd6 {l:List TM}{i:Nat}(h:i<l.length):Jm (l.take (i+1))=max (Jm (l.take i)) l[i].depth:=by
 rw[Zbc h,Zbl,J7,Zep];omega
theorem Zca (l:List TM)(i:Nat):Ja (l.take i)≤Ja l:=by
 have:=Zfr (l.take i) (l.drop i);rw[List.take_append_drop]at this;omega
theorem Zkj {t:TM}{l:List TM}(h:t∈l):t.size≤Ja l:=by
 induction l with
 | nil=>cases h
 | cons u l ih=>
  rw[Zau];rcases List.mem_cons.1 h with rfl|h
  ·omega
  ·have:=ih h;omega
def Zc (t:TM)(A:Option Addr)(cap:Nat):Value:= .agg #[.int .i64 t.k,.int .i64 t.n,.slice A t.l.length cap]
theorem Jk (k n:Int)(l:List TM)(A:Option Addr)(cap:Nat):Zc (.node k n l) A cap= .agg #[.int .i64 k,.int .i64 n,.slice A l.length cap]:=rfl
structure Zh6 (w:World) (b o:Nat) (t:TM) (A:Option Addr) (cap:Nat):Prop where
 c0:w.cell? ⟨b,o,none⟩=some (.int .i64 t.k)
 c1:w.cell? ⟨b,o+1,none⟩=some (.int .i64 t.n)
 c2:w.cell? ⟨b,o+2,none⟩=some (.slice A t.l.length cap)
inductive Zd (w:World) (P:Nat→Prop):TM→Option Addr→Nat→Prop where
  | mk (k n:Int) (l:List TM) (A:Option Addr) (cap:Nat) (F:Nat→Option Addr) (C:Nat→Nat)
    (hl:l.length≤cap) (hm:cap≤maxLen)
    (hc:0<l.length→∃b o,A=some ⟨b,o,none⟩∧P b∧∀i (h:i<l.length),Zh6 w b (o+i*3) l[i] (F i) (C i))
    (hn:∀i (h:i<l.length),Zd w P l[i] (F i) (C i)):Zd w P (.node k n l) A cap
theorem Zd.imp {w w':World}{P P':Nat→Prop}(hw:∀b o,P b→w'.cell? ⟨b,o,none⟩=w.cell? ⟨b,o,none⟩)(hP:∀b,P b→P' b){t:TM}{A:Option Addr}{cap:Nat}(h:Zd w P t A cap):Zd w' P' t A cap:=by
 induction h with
 | mk k n l A cap F C hl hm hc _ ih=>
  refine .mk k n l A cap F C hl hm (fun h0=> ?_) ih;obtain⟨b,o,hA,hb,hx⟩:=hc h0;refine⟨b,o,hA,hP b hb,fun i h=> ?_⟩;obtain⟨x0,x1,x2⟩:=hx i h;exact⟨by rw[hw _ _ hb,x0],by rw[hw _ _ hb,x1],by rw[hw _ _ hb,x2]⟩
theorem Zd.bounds {w:World}{P:Nat→Prop}{k n:Int}{l:List TM}{A:Option Addr}{cap:Nat}(h:Zd w P (.node k n l) A cap):l.length≤cap∧cap≤maxLen:=by
 cases h with
 | mk k n l A cap F C hl hm hc hn=>exact⟨hl,hm⟩
theorem Zd.at_ {w:World}{P:Nat→Prop}{k n:Int}{l:List TM}{A:Option Addr}{cap:Nat}(h:Zd w P (.node k n l) A cap)(i:Nat)(hi':i<l.length):
  ∃b o F C,A=some ⟨b,o,none⟩∧P b∧Zh6 w b (o+i*3) l[i] F C∧Zd w P l[i] F C:=by
 cases h with
 | mk k n l A cap F C hl hm hc hn=>
  obtain⟨b,o,hA,h1,h3⟩:=hc (by omega);exact⟨b,o,F i,C i,hA,h1,h3 i hi',hn i hi'⟩
def Za (w:World)(lo hi:Nat)(t:TM)(A:Option Addr)(cap:Nat):Prop:=Zd w (fun b=>lo≤b∧b<hi) t A cap
theorem Za.imp {w w':World}{lo hi lo' hi':Nat}(hw:∀b o,lo≤b→b<hi→w'.cell? ⟨b,o,none⟩=w.cell? ⟨b,o,none⟩)(h1:lo'≤lo)(h2:hi≤hi'){t:TM}{A:Option Addr}{cap:Nat}(h:Za w lo hi t A cap):Za w' lo' hi' t A cap:=
 Zd.imp (fun b o hb=>hw b o hb.1 hb.2) (fun b hb=>⟨by omega,by omega⟩) h
theorem Za.kept {w w':World}{lo hi B:Nat}{t:TM}{A:Option Addr}{cap:Nat}(h:Za w lo hi t A cap)(hb:Below B w w')(hB:hi≤B):Za w' lo hi t A cap:=
 h.imp (fun b o _ h2=>hb.cell (p:=⟨b,o,none⟩) (by show b<B;omega)) Zkq Zkq
theorem Za.wide {w:World}{lo hi lo' hi':Nat}{t:TM}{A:Option Addr}{cap:Nat}(h:Za w lo hi t A cap)(h1:lo'≤lo)(h2:hi≤hi'):Za w lo' hi' t A cap:=
 h.imp (fun _ _ _ _=>rfl) h1 h2
theorem Za.bounds {w:World}{lo hi:Nat}{k n:Int}{l:List TM}{A:Option Addr}{cap:Nat}(h:Za w lo hi (.node k n l) A cap):l.length≤cap∧cap≤maxLen:=Zd.bounds h
def Zj4 (w:World)(lo hi:Nat)(A:Option Addr)(l:List TM)(i:Nat)(h:i<l.length):Prop:=
 ∃b o F C,A=some ⟨b,o,none⟩∧lo≤b∧b<hi∧Zh6 w b (o+i*3) l[i] F C∧Za w lo hi l[i] F C
theorem Za.sub {w:World}{lo hi:Nat}{k n:Int}{l:List TM}{A:Option Addr}{cap:Nat}(h:Za w lo hi (.node k n l) A cap)(i:Nat)(hi':i<l.length):Zj4 w lo hi A l i hi':=by
 obtain⟨b,o,F,C,hA,hb,hx,hn⟩:=Zd.at_ h i hi';exact⟨b,o,F,C,hA,hb.1,hb.2,hx,hn⟩
theorem Zh6.kept {w w':World}{b o:Nat}{t:TM}{A:Option Addr}{cap B:Nat}(h:Zh6 w b o t A cap)(hb:Below B w w')(hB:b<B):Zh6 w' b o t A cap:=by
 obtain⟨x0,x1,x2⟩:=h;have e:∀q,w'.cell? ⟨b,q,none⟩=w.cell? ⟨b,q,none⟩:=fun q=>hb.cell (p:=⟨b,q,none⟩) hB;exact⟨by rw[e,x0],by rw[e,x1],by rw[e,x2]⟩
theorem Zj4.kept {w w':World}{lo hi B:Nat}{A:Option Addr}{l:List TM}{i:Nat}{h:i<l.length}(hx:Zj4 w lo hi A l i h)(hb:Below B w w')(hB:hi≤B):Zj4 w' lo hi A l i h:=by
 obtain⟨b,o,F,C,hA,h1,h2,h3,h4⟩:=hx;exact⟨b,o,F,C,hA,h1,h2,h3.kept hb (by omega),h4.kept hb hB⟩
theorem Za.alloc {w:World}{lo hi:Nat}{t:TM}{A:Option Addr}{cap:Nat}(h:Za w lo hi t A cap)(hB:hi≤w.heap.size)(o:Obj):Za (w.alloc o) lo hi t A cap:=
 h.kept ((Qu hi w).alloc hB o) Zkq
def Zq (p:TM×Option Addr×Nat):List Value:=[.int .i64 p.1.k,.int .i64 p.1.n,.slice p.2.1 p.1.l.length p.2.2]
def Zu (ps:List (TM×Option Addr×Nat)):List Value:=ps.flatMap Zq
theorem Zws (ps:List (TM×Option Addr×Nat))(p:TM×Option Addr×Nat):Zu (ps++[p])=Zu ps++Zq p:=by
 unfold Zu;rw[Qg];simp
theorem Zes:∀(ps:List (TM×Option Addr×Nat)) (j r:Nat) (h:j<ps.length),r<3→(Zu ps)[j*3+r]? =(Zq ps[j])[r]?
 | p::ps,0,r,_,hr=>by
  show(Zq p++Zu ps)[0*3+r]? =_
  rw[Qe (by simp[Zq];omega)];simp
 | p::ps,j+1,r,h,hr=>by
  show(Zq p++Zu ps)[(j+1)*3+r]? =_
  rw[Qd (by simp[Zq];omega)];have e:(j+1)*3+r - (Zq p).length=j*3+r:=by simp[Zq];omega
  rw[e,Zes ps j r (by simpa using h) hr];rfl
theorem Jx (p:TM×Option Addr×Nat):∀u∈Zq p,u.oneCell'=true:=by
 intro u hu;simp[Zq]at hu;rcases hu with rfl|rfl|rfl<;>rfl
structure Zk (w:World) (base:Nat) (e:TypeId) (v:Value) (ps:List (TM×Option Addr×Nat)) (P:Nat→Prop):Prop where
 row:w.ownsRow base e 3 v ps.length (Zu ps)
 far:∀b,P b→b<w.heap.size∧v.ownBlock≠some b
 node:∀p∈ps,Zd w P p.1 p.2.1 p.2.2
theorem Zk.nil (w:World)(base:Nat)(e:TypeId):Zk w base e (.slice none 0 0) [] (fun _=>False):=
 ⟨Qp _ _ _ _,fun _ h=>h.elim,fun _ h=>by cases h⟩
theorem Zk.kept {w w':World}{base:Nat}{e:TypeId}{v:Value}{ps:List (TM×Option Addr×Nat)}{P:Nat→Prop}(h:Zk w base e v ps P)(hz:w.heap.size≤w'.heap.size)
    (hr:w'.ownsRow base e 3 v ps.length (Zu ps)) (hc:∀b,P b→w'.heap[b]? =w.heap[b]?):Zk w' base e v ps P:=
  ⟨hr,fun b hb=>⟨Qr (h.far b hb).1 hz,(h.far b hb).2⟩,fun p hp=>(h.node p hp).imp (fun b o hb=>Qn (a:=⟨b,o,none⟩) (hc b hb)) (fun _ h=>h)⟩
theorem Zk.below {w w':World}{base:Nat}{e:TypeId}{v:Value}{ps:List (TM×Option Addr×Nat)}{P:Nat→Prop}(h:Zk w base e v ps P)(hb:Below w.heap.size w w'):Zk w' base e v ps P:=
 h.kept hb.size (h.row.kept (row:=none) ⟨hb.os,hb.tape,hb.output,hb.size,fun k hk _=>hb.block k hk⟩ (by cases hv:v.ownBlock<;>simp)) (fun b hb'=>hb.block b (h.far b hb').1)
theorem Zk.alloc {w:World}{base:Nat}{e:TypeId}{v:Value}{ps:List (TM×Option Addr×Nat)}{P:Nat→Prop}(h:Zk w base e v ps P)(o:Obj):Zk (w.alloc o) base e v ps P:=
 h.below ((Qu _ _).alloc Zkq _)
theorem Zk.setCell {w:World}{base:Nat}{e:TypeId}{v:Value}{ps:List (TM×Option Addr×Nat)}{P:Nat→Prop}(h:Zk w base e v ps P){a:Addr}(ha:a.block<base)(hP:∀b,P b→b≠a.block)(u:Value):Zk (w.setCell a u) base e v ps P:=
 h.kept (by simp[Qo]) (ownsRow_setCell_below h.row ha u) (fun b hb=>Qv w a u b (hP b hb))
theorem Zk.push {w w':World}{base:Nat}{e:TypeId}{v v':Value}{ps:List (TM×Option Addr×Nat)}{P Pn:Nat→Prop}{p:TM×Option Addr×Nat}(h:Zk w base e v ps P)
    (hn:Zd w Pn p.1 p.2.1 p.2.2) (hf:∀b,Pn b→b<w.heap.size∧v.ownBlock≠some b)
    (hr:w'.ownsRow base e 3 v' (ps.length+1) (Zu ps++Zq p)) (hg:w.grownBy w' v.ownBlock) (ho:v'.ownBlock=v.ownBlock∨v'.ownBlock=some w.heap.size):Zk w' base e v' (ps++[p]) (fun b=>P b∨Pn b):=by
  have hb:∀b,P b∨Pn b→b<w.heap.size∧v.ownBlock≠some b:=fun b hb=>hb.elim (h.far b) (hf b);have hcell:∀b o,P b∨Pn b→w'.cell? ⟨b,o,none⟩=w.cell? ⟨b,o,none⟩:=fun b o hb'=>Qn (a:=⟨b,o,none⟩) (hg.block b (hb b hb').1 (fun e=>(hb b hb').2 e.symm));refine⟨by rw[Zws,Qh];exact hr,fun b hb'=>⟨Qr (hb b hb').1 hg.size,fun e=> ?_⟩,fun q hq=> ?_⟩
  · rcases ho with ho|ho
    · exact(hb b hb').2 (ho.symm.trans e)
    · have:=(hb b hb').1;rw[ho]at e;injection e with e;omega
  · rcases List.mem_append.1 hq with hq|hq
    · exact(h.node q hq).imp (fun b o hb'=>hcell b o (.inl hb')) (fun b hb'=> .inl hb')
    · obtain rfl:q=p:=by simpa using hq
      exact hn.imp (fun b o hb'=>hcell b o (.inr hb')) (fun b hb'=> .inr hb')
theorem Zk.parent {w:World}{base lo:Nat}{e:TypeId}{A:Option Addr}{cap:Nat}{ps:List (TM×Option Addr×Nat)}{P:Nat→Prop}(h:Zk w base e (.slice A ps.length cap) ps P)(hlo:lo≤base)(hP:∀b,P b→lo≤b)
    (k n:Int):Za w lo w.heap.size (.node k n (ps.map (·.1))) A cap:=by
  have hcap:ps.length≤cap∧cap≤maxLen:=by
    rcases h.row.2 with ⟨h1,h2⟩|⟨g,c,cur,h1,_,_,h2,h3,_⟩
    · injection h1 with _ h3 h4;subst h4;omega
    · injection h1 with _ _ h4;subst h4;exact⟨h2,h3⟩
  have hlen:(ps.map (·.1)).length=ps.length:=Ql _;have hnode:∀i (hi:i<(ps.map (·.1)).length),Zd w (fun b=>lo≤b∧b<w.heap.size) (ps.map (·.1))[i] ((ps[i]?.map fun p=>p.2.1).getD none) ((ps[i]?.map fun p=>p.2.2).getD 0):=by
    intro i hi;have hi':i<ps.length:=by omega
    rw[Qa hi',Qb];exact(h.node _ (Qi hi')).imp (fun _ _ _=>rfl) (fun b hb=>⟨hP b hb,(h.far b hb).1⟩)
  refine Zd.mk k n _ A cap (fun i=>(ps[i]?.map fun p=>p.2.1).getD none) (fun i=>(ps[i]?.map fun p=>p.2.2).getD 0) (by omega) hcap.2 (fun h0=> ?_) hnode;rcases h.row.2 with ⟨h1,h2⟩|⟨g,c,cur,h1,hbg,hg,_⟩
  · omega
  · injection h1 with h1 _ _;subst h1;refine⟨g,0,rfl,⟨by omega, ?_⟩,fun i hi=> ?_⟩
    · rcases Qs g w.heap.size with hlt|hge
      · exact hlt
      · rw[Qy hge]at hg;cases hg
    · have hi':i<ps.length:=by omega
      have hat:=fun r (hr:r<3)=>(h.row.cellAt (i*3+r) (by omega)).trans (Zes ps i r hi' hr);have e:(ps.map (·.1))[i]=ps[i].1:=Qb _;rw[e,Qa hi'];have a0:=hat 0 (by omega);rw[Qt]at a0;exact⟨by rw[Qq,a0];rfl,by rw[Qq,hat 1 (by omega)];rfl,by rw[Qq,hat 2 (by omega)];rfl⟩
def Zny (w:World)(g:FuncId)(ps:List Value)(l:List TM)(Q:Nat→Bool):Prop:=
 ∀i (h:i<l.length) (lo hi:Nat) (F:Option Addr) (C:Nat) (w':World),Below w.heap.size w w'→Za w' lo hi l[i] F C→hi≤w'.heap.size→
  Calls prog g (⟨Zc l[i] F C::ps⟩:Array Value) w' fun e w''=>e= .returned (.bool (Q i))∧Below w'.heap.size w' w''
def Zaf (w:World)(lo hi:Nat)(A:Option Addr)(l:List TM):Prop:=∀i (h:i<l.length),Zj4 w lo hi A l i h
theorem Zaf.kept {w w':World}{lo hi B:Nat}{A:Option Addr}{l:List TM}(h:Zaf w lo hi A l)(hb:Below B w w')(hB:hi≤B):Zaf w' lo hi A l:=fun i hi'=>(h i hi').kept hb hB
theorem Zny.kept {w w':World}{g:FuncId}{ps:List Value}{l:List TM}{Q:Nat→Bool}(h:Zny w g ps l Q)(hb:Below w.heap.size w w'):Zny w' g ps l Q:=
 fun i hi lo hi' F C W hW=>h i hi lo hi' F C W (hb.trans (hW.mono hb.size))
theorem Zx4 (l:List TM)(A:Option Addr)(cap lo hi:Nat)(p:Addr)(Q:Nat→Bool)(w:World)(hl:l.length≤maxLen)(hn:Zaf w lo hi A l)(hhi:hi≤w.heap.size)(ht:Zny w 116 [.pointer (some p)] l Q):
  Calls prog 70 #[.slice A l.length cap,.func (.func 116) #[] #[.pointer (some p)]] w (Zqn Q l.length w):=by
 have HN:=hid hn;have HT:=hid ht;unfold maxLen at hl;clear hn ht;go_enter func70,ntmps70;go_wp2_with fail;go_loopw [8] (fun iv wr=>∃i:Nat,i≤l.length∧iv= .int .i64 i∧Below w.heap.size w wr∧Hid (∀j,j<i→Q j=false)) (fun iv _=>l.length - (intOf iv).toNat)
 case atStart=>exact⟨0,Nat.zero_le _,rfl,Qu _ _,hid (fun j hj=>by omega)⟩
 case round=>
  obtain⟨i,hi1,rfl,hB,HQ⟩:=hrel;have hz:=hB.size;by_cases hil:i<l.length
  ·obtain⟨b,o,F,C,rfl,hb1,hb2,hx,hnode⟩:=(HN.out i hil).kept hB hhi;obtain⟨x0,x1,x2⟩:=hx;have HR:=hid (HT.out i hil lo hi F C wr hB hnode (by omega));clear HT HN;cases hq:Q i with
   | true=>
    rw[hq]at HR;have HQ2:=hid hq;clear hq;go_wp2_with fail;refine HR.out.mono ?_;rintro e w1 ⟨rfl,hb1⟩;go_wp2_with fail;go_ret;exact⟨_,rfl,.inr ⟨by omega,i,hil,HQ2.out⟩,hB.trans (hb1.mono hz)⟩
   | false=>
    rw[hq]at HR;have HQ2:=hid hq;clear hq;go_wp2_with fail;refine HR.out.mono ?_;rintro e w1 ⟨rfl,hb1⟩;go_wp2_with fail;go_roundw
    case rel=>
     refine⟨i+1,by omega,rfl,hB.trans (hb1.mono hz),hid (fun j hj=> ?_)⟩;by_cases e:j<i
     ·exact HQ.out j e
     ·obtain rfl:j=i:=by omega
      exact HQ2.out
    case measure=>simp[intOf];omega
  ·obtain rfl:i=l.length:=by omega
   clear HT HN;go_wp2_with fail;go_ret;exact⟨_,rfl,.inl ⟨rfl,HQ.out⟩,hB⟩
def Zi2 (f:TM→Bool)(l:List TM)(i:Nat):Bool:=match l[i]? with|some t=>f t|none=>true
theorem Zf7 (f:TM→Bool){l:List TM}{i:Nat}(h:i<l.length):Zi2 f l i=f l[i]:=by
 unfold Zi2;rw[Qa h]
