import Derived.Test.YtchllgkgjompgaaGreatDoorRows
import Derived.WalkKit
import Derived.ProofKit
import Derived.Lib.Hide
import Derived.Maps.AppendAt
import Derived.Deep.AppendLies
import Derived.RegionTactic
import Derived.OwnWalk
import Derived.LoopTactic
import Derived.LoopN
namespace Go.Proofs.YtchllgkgjompgaaGreatDoor
open Go.RowKit
set_option linter.unusedVariables false
open Lib(hid)
open Go.Proofs.Tryz
inductive RT where
 | node (k a:Int) (s:ByteArray) (n:Int) (l:List RT)
namespace RT
def k:RT→Int| .node k _ _ _ _=>k
def a:RT→Int| .node _ a _ _ _=>a
def s:RT→ByteArray| .node _ _ s _ _=>s
def n:RT→Int| .node _ _ _ n _=>n
def l:RT→List RT| .node _ _ _ _ l=>l
theorem eta:∀t:RT,t= .node t.k t.a t.s t.n t.l
 | .node _ _ _ _ _=>rfl
theorem ind {P:RT→Prop} (h:∀k a s n l,(∀t∈l,P t)→P (.node k a s n l)):∀t,P t
 | .node k a s n l=>h k a s n l (fun t ht=>ind h t)
termination_by t=>SizeOf.sizeOf t
decreasing_by
 have:=List.sizeOf_lt_of_mem ht;simp;omega
end RT
mutual
def same:RT→RT→Bool
 | .node k _ s n l,.node k' _ s' n' l'=>decide (k=k') && (decide (s=s') && (decide (n=n') && sameL l l'))
def sameL:List RT→List RT→Bool
 | [],[]=>true
 | t::r,t'::r'=>same t t' && sameL r r'
 | _,_=>false
end
theorem ret_nat {a b:Nat} (h:a=b):Ending.returned (.int .i64 (a:Int))= .returned (.int .i64 (b:Int)):=by rw[h]
theorem int_nat {a b:Nat} (h:a=b):Value.int .i64 (a:Int)= .int .i64 (b:Int):=by rw[h]
theorem int_of {x y:Int} (h:x=y):Value.int .i64 x= .int .i64 y:=by rw[h]
def topN (n:Nat):Nat:=min n 8193
theorem topN_one {n:Nat} (h:n≤8192):topN (n+1+0)=n+1:=by unfold topN;omega
theorem topN_le (n:Nat):topN n≤8193:=by unfold topN;omega
theorem topN_le' (n:Nat):topN n≤n:=by unfold topN;omega
theorem topN_add (a b:Nat):topN (topN a+b)=topN (a+b):=by unfold topN;omega
theorem topN_stop {a b:Nat} (h:8192<topN a) (hab:a≤b):topN a=topN b:=by unfold topN at*;omega
def Src (w:World) (size:Nat) (A:Option Addr) (m:Nat) (news:List Value):Prop:=
 news.length=m*size∧(0<m→∃ad,A=some ad∧∀j u,news[j]? =some u→w.cell? (ad.add j)=some u)
def AppTo (w:World) (base:Nat) (e:TypeId) (size:Nat) (v:Value) (n:Nat) (xs:List Value) (v':Value) (w':World):Prop:=
 w'.ownsRow base e size v' n xs∧w.grownBy w' v.ownBlock∧(v'.ownBlock=v.ownBlock∨v'.ownBlock=some w.heap.size)
theorem run_app {Q:Program} (w:World) (base:Nat) (t ty e:TypeId) (i:TypeInfo) (z:Value) (size bytes:Nat) (ht:Q.underlying t=some (.slice e)) (hi:Q.info? e=some i) (hz:i.zero=some z)
    (hsize:i.size=size) (hby:i.bytes=bytes) (hzs:z.cells.size=size) (hsz:0<size) (v:Value) (n:Nat) (xs:List Value) (hown:w.ownsRow base e size v n xs)
    (A:Option Addr) (m c:Nat) (news:List Value) (hs:Src w size A m news) (h1:∀u∈news,u.oneCell'=true) (h63:n+m≤maxLen) (hbytes:(n+m)*bytes≤140737488355328) (hbase:base≤w.heap.size):
    ∃v' w',(Builtin.append_ #[t,t] ty #[v,.slice A m c]).run Q w= .ok v' w'∧AppTo w base e size v (n+m) (xs++news) v' w':=by
  obtain⟨hl,hc⟩:=hs;cases A with
  | none=>
    have hm:m=0:=by
      cases m with
      | zero=>rfl
      | succ m=>obtain⟨ad,h,_⟩:=hc (by omega);cases h
    subst hm;obtain rfl:news=[]:=List.eq_nil_of_length_eq_zero (by rw[hl];omega);refine⟨v,w, ?_,by simpa using hown,World.grownBy.refl w _,.inl rfl⟩;rcases hown.2 with ⟨rfl,rfl⟩|⟨g,cap,cur,rfl,_,_,hnc,_⟩
    · simp[Builtin.append_,run_underlying ht,Go.sizeOf,typeInfo,hi,Builtin.lenOf,Builtin.firstCells]
    · simp[Builtin.append_,run_underlying ht,Go.sizeOf,typeInfo,hi,Builtin.lenOf,Builtin.firstCells,hnc,storeCells]
  | some ad=>
    have hnews:∀j u,news[j]? =some u→w.cell? (ad.add j)=some u:=by
      intro j u hu;cases m with
      | zero=>
        obtain rfl:news=[]:=List.eq_nil_of_length_eq_zero (by rw[hl];omega);cases hu
      | succ m=>
        obtain⟨ad',h,hx⟩:=hc (by omega);cases h
        exact hx j u hu
    obtain⟨v',w',hr,h2,h3,_,h5⟩:=run_append_own_at (P:=Q) w base t ty e i z size bytes ht hi hz hsize hby hzs hsz v n xs hown ad m c news hl hnews h1 h63 hbytes hbase;exact⟨v',w',hr,h2,h3,h5⟩
theorem wp_app {Q:Program} {w:World} {o:Oper} {a:Act} {K:Act→World→Prop} {R:Exit→Act→World→Prop} (s x:Operand) (t:TypeId)
    (ho:o.op= .call {callee:= .builtin .append,args:= #[s,x],argTypes:= #[t,t]})
    (base:Nat) (e:TypeId) (i:TypeInfo) (z:Value) (size bytes:Nat) (ht:Q.underlying t=some (.slice e)) (hi:Q.info? e=some i) (hz:i.zero=some z)
    (hsize:i.size=size) (hby:i.bytes=bytes) (hzs:z.cells.size=size) (hsz:0<size) (v:Value) (n:Nat) (xs:List Value) (hv:a.eval s=v) (hown:w.ownsRow base e size v n xs)
    (A:Option Addr) (m c:Nat) (news:List Value) (hx:a.eval x= .slice A m c) (hs:Src w size A m news) (h1:∀u∈news,u.oneCell'=true) (h63:n+m≤maxLen) (hbytes:(n+m)*bytes≤140737488355328) (hbase:base≤w.heap.size)
    (h:∀v' w',AppTo w base e size v (n+m) (xs++news) v' w'→K (a.put o.dst v') w'):o.wp Q a w K R:=by
  obtain⟨v',w',hr,ha⟩:=run_app w base t o.type e i z size bytes ht hi hz hsize hby hzs hsz v n xs hown A m c news hs h1 h63 hbytes hbase;unfold Oper.wp execOp;simp only[ho,resolve,invoke,builtin,Sem.run_bind,Sem.run_pure,Result.andThen_ok,List.map_toArray,List.map_cons,List.map_nil,hv,hx,hr];exact h v' w' ha
theorem wpList_app {Q:Program} {w:World} {ops:Array Oper} {rest:List Oper} {o:Oper} {a:Act} {R:Exit→Act→World→Prop} (hgd:o.guard=none) (s x:Operand) (t:TypeId)
    (ho:o.op= .call {callee:= .builtin .append,args:= #[s,x],argTypes:= #[t,t]})
    (base:Nat) (e:TypeId) (i:TypeInfo) (z:Value) (size bytes:Nat) (ht:Q.underlying t=some (.slice e)) (hi:Q.info? e=some i) (hz:i.zero=some z)
    (hsize:i.size=size) (hby:i.bytes=bytes) (hzs:z.cells.size=size) (hsz:0<size) (v:Value) (n:Nat) (xs:List Value) (hv:a.eval s=v) (hown:w.ownsRow base e size v n xs)
    (A:Option Addr) (m c:Nat) (news:List Value) (hx:a.eval x= .slice A m c) (hs:Src w size A m news) (h1:∀u∈news,u.oneCell'=true) (h63:n+m≤maxLen) (hbytes:(n+m)*bytes≤140737488355328) (hbase:base≤w.heap.size)
    (h:∀v' w',AppTo w base e size v (n+m) (xs++news) v' w'→wpList Q ops R rest (a.put o.dst v') w'):wpList Q ops R (o::rest) a w:=
  wpList_plain hgd fun _ hK=>wp_app s x t ho base e i z size bytes ht hi hz hsize hby hzs hsz v n xs hv hown A m c news hx hs h1 h63 hbytes hbase fun v' w' ha=>hK _ _ (h v' w' ha)
theorem step_app {Q:Program} {w:World} {ops:Array Oper} {o:Oper} {a:Act} {K:Act→World→Prop} {R:Exit→Act→World→Prop} {E:Prop} (hgd:o.guard=none) (s x:Operand) (t:TypeId)
    (ho:o.op= .call {callee:= .builtin .append,args:= #[s,x],argTypes:= #[t,t]})
    (base:Nat) (e:TypeId) (i:TypeInfo) (z:Value) (size bytes:Nat) (ht:Q.underlying t=some (.slice e)) (hi:Q.info? e=some i) (hz:i.zero=some z)
    (hsize:i.size=size) (hby:i.bytes=bytes) (hzs:z.cells.size=size) (hsz:0<size) (v:Value) (n:Nat) (xs:List Value) (hv:a.eval s=v) (hown:w.ownsRow base e size v n xs)
    (A:Option Addr) (m c:Nat) (news:List Value) (hx:a.eval x= .slice A m c) (hs:Src w size A m news) (h1:∀u∈news,u.oneCell'=true) (h63:n+m≤maxLen) (hbytes:(n+m)*bytes≤140737488355328) (hbase:base≤w.heap.size)
    (h:∀v' w',AppTo w base e size v (n+m) (xs++news) v' w'→K (a.put o.dst v') w'):if Region.wanted o (yielded ops a.tmps)=true then Oper.wp Q o a w K R else E:=by
  rw[if_pos (by simp[Region.wanted,hgd])];exact wp_app s x t ho base e i z size bytes ht hi hz hsize hby hzs hsz v n xs hv hown A m c news hx hs h1 h63 hbytes hbase h
theorem src_new (w:World) (cs:Array Value) (t:TypeId):Src (w.alloc (.cells cs t)) cs.size (some ⟨w.heap.size,0,none⟩) 1 cs.toList:=
 ⟨by simp,fun _=>⟨_,rfl,World.news_of_block (heap_alloc_new w _)⟩⟩
theorem src_at (w:World) (cs:Array Value) (t:TypeId) {g size:Nat} (hg:g=w.heap.size) (hs:cs.size=size):Src (w.alloc (.cells cs t)) size (some ⟨g,0,none⟩) 1 cs.toList:=by
 subst hg;subst hs;exact src_new w cs t
def Bk (w:World) (g:Nat) (e:TypeId) (cs:Array Value):Prop:=w.heap[g]? =some (.cells cs e (0,0))
theorem Bk.lt {w:World} {g:Nat} {e:TypeId} {cs:Array Value} (h:Bk w g e cs):g<w.heap.size:=by
 rcases Nat.lt_or_ge g w.heap.size with hlt|hge
 ·exact hlt
 ·unfold Bk at h;rw[Array.getElem?_eq_none hge]at h;cases h
theorem Bk.cell {w:World} {g:Nat} {e:TypeId} {cs:Array Value} (h:Bk w g e cs) (i:Nat):w.cell? ⟨g,i,none⟩=cs[i]? :=cell_of_row w g i cs e (0,0) h
theorem Bk.cold {w:World} {g:Nat} {e:TypeId} {cs:Array Value} (h:Bk w g e cs) (i:Nat):w.frozen? ⟨g,i,none⟩=false:=by
 have h':w.heap[g]? =_:=h;simp[World.frozen?,h']
theorem Bk.new (w:World) (e:TypeId) (cs:Array Value):Bk (w.alloc (.cells cs e)) w.heap.size e cs:=heap_alloc_new w _
theorem Bk.alloc {w:World} {g:Nat} {e:TypeId} {cs:Array Value} (h:Bk w g e cs) (o:Obj):Bk (w.alloc o) g e cs:=(Below.heap_alloc w o g h.lt).trans h
theorem Bk.below {w w':World} {g B:Nat} {e:TypeId} {cs:Array Value} (h:Bk w g e cs) (hb:Below B w w') (hg:g<B):Bk w' g e cs:=(hb.block g hg).trans h
theorem Bk.far {w:World} {g:Nat} {e:TypeId} {cs:Array Value} (h:Bk w g e cs) {a:Addr} (ha:g≠a.block) (u:Value):Bk (w.setCell a u) g e cs:=(Below.heap_setCell w a u g ha).trans h
theorem Bk.at_ {w:World} {g:Nat} {e:TypeId} {cs:Array Value} (h:Bk w g e cs) (i:Nat) (u:Value):Bk (w.setCell ⟨g,i,none⟩ u) g e (cs.setIfInBounds i u):=by
 have h':w.heap[g]? =_:=h;unfold Bk;simp[World.setCell,Array.getElem?_modify,h']
theorem Bk.grown {w w':World} {g:Nat} {e:TypeId} {cs:Array Value} {row:Option Nat} (h:Bk w g e cs) (hg:w.grownBy w' row) (hr:some g≠row):Bk w' g e cs:=(hg.block g h.lt hr).trans h
def IdxR (Q:Nat→Bool) (n:Nat) (r:Int):Prop:=(r= -1∧∀i,i<n→Q i=false)∨(0≤r∧∃i,i<n∧Q i=true)
def allB (Q:Nat→Bool):Nat→Bool
 | 0=>true
 | n+1=>allB Q n && Q n
theorem allB_true {Q:Nat→Bool}:∀{n:Nat},allB Q n=true↔∀i,i<n→Q i=true
 | 0=>by simp[allB]
 | n+1=>by
  rw[allB,Bool.and_eq_true,allB_true];constructor
  ·rintro⟨h1,h2⟩ i hi;by_cases h:i<n
   ·exact h1 i h
   ·obtain rfl:i=n:=by omega
    exact h2
  ·exact fun h=>⟨fun i hi=>h i (by omega),h n (by omega)⟩
def SomeIdx (Q:Nat→Bool) (n:Nat) (w:World) (e:Ending) (w':World):Prop:=∃r:Int,e= .returned (.int .i64 r)∧IdxR Q n r∧Below w.heap.size w w'
inductive TM where
 | node (k n:Int) (l:List TM)
namespace TM
def k:TM→Int| .node k _ _=>k
def n:TM→Int| .node _ n _=>n
def l:TM→List TM| .node _ _ l=>l
theorem eta:∀t:TM,t= .node t.k t.n t.l
 | .node _ _ _=>rfl
theorem ind {P:TM→Prop} (h:∀k n l,(∀t∈l,P t)→P (.node k n l)):∀t,P t
 | .node k n l=>h k n l (fun t ht=>ind h t)
termination_by t=>SizeOf.sizeOf t
decreasing_by
 have:=List.sizeOf_lt_of_mem ht;simp;omega
end TM
mutual
def TM.size:TM→Nat
 | .node _ _ l=>sizeM l+1
def sizeM:List TM→Nat
 | []=>0
 | t::r=>t.size+sizeM r
end
mutual
def TM.depth:TM→Nat
 | .node _ _ l=>depthM l+1
def depthM:List TM→Nat
 | []=>0
 | t::r=>max t.depth (depthM r)
end
mutual
def alikeT:TM→TM→Bool
 | .node k n l,.node k' n' l'=>decide (k=k') && (decide (n=n') && alikeM l l')
def alikeM:List TM→List TM→Bool
 | [],[]=>true
 | t::r,t'::r'=>alikeT t t' && alikeM r r'
 | _,_=>false
end
theorem tsize_node (k n:Int) (l:List TM):(TM.node k n l).size=sizeM l+1:=by rw[TM.size]
theorem tdepth_node (k n:Int) (l:List TM):(TM.node k n l).depth=depthM l+1:=by rw[TM.depth]
theorem sizeM_nil:sizeM []=0:=by rw[sizeM]
theorem sizeM_cons (t:TM) (r:List TM):sizeM (t::r)=t.size+sizeM r:=by rw[sizeM]
theorem depthM_nil:depthM []=0:=by rw[depthM]
theorem depthM_cons (t:TM) (r:List TM):depthM (t::r)=max t.depth (depthM r):=by rw[depthM]
theorem tsize_pos (t:TM):0<t.size:=by rw[t.eta,tsize_node];omega
theorem sizeM_append (l r:List TM):sizeM (l++r)=sizeM l+sizeM r:=by
 induction l with
 | nil=>rw[List.nil_append,sizeM_nil];omega
 | cons t l ih=>rw[List.cons_append,sizeM_cons,sizeM_cons,ih];omega
theorem depthM_append (l r:List TM):depthM (l++r)=max (depthM l) (depthM r):=by
 induction l with
 | nil=>rw[List.nil_append,depthM_nil];omega
 | cons t l ih=>rw[List.cons_append,depthM_cons,depthM_cons,ih];omega
theorem sizeM_len (l:List TM):l.length≤sizeM l:=by
 induction l with
 | nil=>simp
 | cons t l ih=>rw[sizeM_cons];have:=tsize_pos t;simp;omega
theorem take_snocM {l:List TM} {i:Nat} (h:i<l.length):l.take (i+1)=l.take i++[l[i]]:=by
 rw[List.take_succ_eq_append_getElem h]
theorem sizeM_snoc {l:List TM} {i:Nat} (h:i<l.length):sizeM (l.take (i+1))=sizeM (l.take i)+l[i].size:=by
 rw[take_snocM h,sizeM_append,sizeM_cons,sizeM_nil];omega
theorem depthM_snoc {l:List TM} {i:Nat} (h:i<l.length):depthM (l.take (i+1))=max (depthM (l.take i)) l[i].depth:=by
 rw[take_snocM h,depthM_append,depthM_cons,depthM_nil];omega
theorem sizeM_take_le (l:List TM) (i:Nat):sizeM (l.take i)≤sizeM l:=by
 have:=sizeM_append (l.take i) (l.drop i);rw[List.take_append_drop]at this;omega
theorem tsize_mem {t:TM} {l:List TM} (h:t∈l):t.size≤sizeM l:=by
 induction l with
 | nil=>cases h
 | cons u l ih=>
  rw[sizeM_cons];rcases List.mem_cons.1 h with rfl|h
  ·omega
  ·have:=ih h;omega
def termV (t:TM) (A:Option Addr) (cap:Nat):Value:= .agg #[.int .i64 t.k,.int .i64 t.n,.slice A t.l.length cap]
theorem termV_node (k n:Int) (l:List TM) (A:Option Addr) (cap:Nat):termV (.node k n l) A cap= .agg #[.int .i64 k,.int .i64 n,.slice A l.length cap]:=rfl
structure Cells3 (w:World) (b o:Nat) (t:TM) (A:Option Addr) (cap:Nat):Prop where
 c0:w.cell? ⟨b,o,none⟩=some (.int .i64 t.k)
 c1:w.cell? ⟨b,o+1,none⟩=some (.int .i64 t.n)
 c2:w.cell? ⟨b,o+2,none⟩=some (.slice A t.l.length cap)
inductive TermIn (w:World) (P:Nat→Prop):TM→Option Addr→Nat→Prop where
  | mk (k n:Int) (l:List TM) (A:Option Addr) (cap:Nat) (F:Nat→Option Addr) (C:Nat→Nat)
    (hl:l.length≤cap) (hm:cap≤maxLen)
    (hc:0<l.length→∃b o,A=some ⟨b,o,none⟩∧P b∧∀i (h:i<l.length),Cells3 w b (o+i*3) l[i] (F i) (C i))
    (hn:∀i (h:i<l.length),TermIn w P l[i] (F i) (C i)):TermIn w P (.node k n l) A cap
theorem TermIn.imp {w w':World} {P P':Nat→Prop} (hw:∀b o,P b→w'.cell? ⟨b,o,none⟩=w.cell? ⟨b,o,none⟩) (hP:∀b,P b→P' b) {t:TM} {A:Option Addr} {cap:Nat} (h:TermIn w P t A cap):TermIn w' P' t A cap:=by
 induction h with
 | mk k n l A cap F C hl hm hc _ ih=>
  refine .mk k n l A cap F C hl hm (fun h0=> ?_) ih;obtain⟨b,o,hA,hb,hx⟩:=hc h0;refine⟨b,o,hA,hP b hb,fun i h=> ?_⟩;obtain⟨x0,x1,x2⟩:=hx i h;exact⟨by rw[hw _ _ hb,x0],by rw[hw _ _ hb,x1],by rw[hw _ _ hb,x2]⟩
theorem TermIn.bounds {w:World} {P:Nat→Prop} {k n:Int} {l:List TM} {A:Option Addr} {cap:Nat} (h:TermIn w P (.node k n l) A cap):l.length≤cap∧cap≤maxLen:=by
 cases h with
 | mk k n l A cap F C hl hm hc hn=>exact⟨hl,hm⟩
theorem TermIn.at_ {w:World} {P:Nat→Prop} {k n:Int} {l:List TM} {A:Option Addr} {cap:Nat} (h:TermIn w P (.node k n l) A cap) (i:Nat) (hi':i<l.length):
  ∃b o F C,A=some ⟨b,o,none⟩∧P b∧Cells3 w b (o+i*3) l[i] F C∧TermIn w P l[i] F C:=by
 cases h with
 | mk k n l A cap F C hl hm hc hn=>
  obtain⟨b,o,hA,h1,h3⟩:=hc (by omega);exact⟨b,o,F i,C i,hA,h1,h3 i hi',hn i hi'⟩
def IsTerm (w:World) (lo hi:Nat) (t:TM) (A:Option Addr) (cap:Nat):Prop:=TermIn w (fun b=>lo≤b∧b<hi) t A cap
theorem IsTerm.imp {w w':World} {lo hi lo' hi':Nat} (hw:∀b o,lo≤b→b<hi→w'.cell? ⟨b,o,none⟩=w.cell? ⟨b,o,none⟩) (h1:lo'≤lo) (h2:hi≤hi') {t:TM} {A:Option Addr} {cap:Nat} (h:IsTerm w lo hi t A cap):IsTerm w' lo' hi' t A cap:=
 TermIn.imp (fun b o hb=>hw b o hb.1 hb.2) (fun b hb=>⟨by omega,by omega⟩) h
theorem IsTerm.kept {w w':World} {lo hi B:Nat} {t:TM} {A:Option Addr} {cap:Nat} (h:IsTerm w lo hi t A cap) (hb:Below B w w') (hB:hi≤B):IsTerm w' lo hi t A cap:=
 h.imp (fun b o _ h2=>hb.cell (p:=⟨b,o,none⟩) (by show b<B;omega)) (Nat.le_refl _) (Nat.le_refl _)
theorem IsTerm.wide {w:World} {lo hi lo' hi':Nat} {t:TM} {A:Option Addr} {cap:Nat} (h:IsTerm w lo hi t A cap) (h1:lo'≤lo) (h2:hi≤hi'):IsTerm w lo' hi' t A cap:=
 h.imp (fun _ _ _ _=>rfl) h1 h2
theorem IsTerm.bounds {w:World} {lo hi:Nat} {k n:Int} {l:List TM} {A:Option Addr} {cap:Nat} (h:IsTerm w lo hi (.node k n l) A cap):l.length≤cap∧cap≤maxLen:=TermIn.bounds h
def SubTm (w:World) (lo hi:Nat) (A:Option Addr) (l:List TM) (i:Nat) (h:i<l.length):Prop:=
 ∃b o F C,A=some ⟨b,o,none⟩∧lo≤b∧b<hi∧Cells3 w b (o+i*3) l[i] F C∧IsTerm w lo hi l[i] F C
theorem IsTerm.sub {w:World} {lo hi:Nat} {k n:Int} {l:List TM} {A:Option Addr} {cap:Nat} (h:IsTerm w lo hi (.node k n l) A cap) (i:Nat) (hi':i<l.length):SubTm w lo hi A l i hi':=by
 obtain⟨b,o,F,C,hA,hb,hx,hn⟩:=TermIn.at_ h i hi';exact⟨b,o,F,C,hA,hb.1,hb.2,hx,hn⟩
theorem Cells3.kept {w w':World} {b o:Nat} {t:TM} {A:Option Addr} {cap B:Nat} (h:Cells3 w b o t A cap) (hb:Below B w w') (hB:b<B):Cells3 w' b o t A cap:=by
 obtain⟨x0,x1,x2⟩:=h;have e:∀q,w'.cell? ⟨b,q,none⟩=w.cell? ⟨b,q,none⟩:=fun q=>hb.cell (p:=⟨b,q,none⟩) hB;exact⟨by rw[e,x0],by rw[e,x1],by rw[e,x2]⟩
theorem SubTm.kept {w w':World} {lo hi B:Nat} {A:Option Addr} {l:List TM} {i:Nat} {h:i<l.length} (hx:SubTm w lo hi A l i h) (hb:Below B w w') (hB:hi≤B):SubTm w' lo hi A l i h:=by
 obtain⟨b,o,F,C,hA,h1,h2,h3,h4⟩:=hx;exact⟨b,o,F,C,hA,h1,h2,h3.kept hb (by omega),h4.kept hb hB⟩
theorem IsTerm.alloc {w:World} {lo hi:Nat} {t:TM} {A:Option Addr} {cap:Nat} (h:IsTerm w lo hi t A cap) (hB:hi≤w.heap.size) (o:Obj):IsTerm (w.alloc o) lo hi t A cap:=
 h.kept ((Below.refl hi w).alloc hB o) (Nat.le_refl _)
def cellsM (p:TM×Option Addr×Nat):List Value:=[.int .i64 p.1.k,.int .i64 p.1.n,.slice p.2.1 p.1.l.length p.2.2]
def flatM (ps:List (TM×Option Addr×Nat)):List Value:=ps.flatMap cellsM
theorem flatM_snoc (ps:List (TM×Option Addr×Nat)) (p:TM×Option Addr×Nat):flatM (ps++[p])=flatM ps++cellsM p:=by
 unfold flatM;rw[List.flatMap_append];simp
theorem flatM_at:∀(ps:List (TM×Option Addr×Nat)) (j r:Nat) (h:j<ps.length),r<3→(flatM ps)[j*3+r]? =(cellsM ps[j])[r]?
 | p::ps,0,r,_,hr=>by
  show(cellsM p++flatM ps)[0*3+r]? =_
  rw[List.getElem?_append_left (by simp[cellsM];omega)];simp
 | p::ps,j+1,r,h,hr=>by
  show(cellsM p++flatM ps)[(j+1)*3+r]? =_
  rw[List.getElem?_append_right (by simp[cellsM];omega)];have e:(j+1)*3+r - (cellsM p).length=j*3+r:=by simp[cellsM];omega
  rw[e,flatM_at ps j r (by simpa using h) hr];rfl
theorem cellsM_one (p:TM×Option Addr×Nat):∀u∈cellsM p,u.oneCell'=true:=by
 intro u hu;simp[cellsM]at hu;rcases hu with rfl|rfl|rfl<;>rfl
structure TermRow (w:World) (base:Nat) (e:TypeId) (v:Value) (ps:List (TM×Option Addr×Nat)) (P:Nat→Prop):Prop where
 row:w.ownsRow base e 3 v ps.length (flatM ps)
 far:∀b,P b→b<w.heap.size∧v.ownBlock≠some b
 node:∀p∈ps,TermIn w P p.1 p.2.1 p.2.2
theorem TermRow.nil (w:World) (base:Nat) (e:TypeId):TermRow w base e (.slice none 0 0) [] (fun _=>False):=
 ⟨World.ownsRow_nil _ _ _ _,fun _ h=>h.elim,fun _ h=>by cases h⟩
theorem TermRow.kept {w w':World} {base:Nat} {e:TypeId} {v:Value} {ps:List (TM×Option Addr×Nat)} {P:Nat→Prop} (h:TermRow w base e v ps P) (hz:w.heap.size≤w'.heap.size)
    (hr:w'.ownsRow base e 3 v ps.length (flatM ps)) (hc:∀b,P b→w'.heap[b]? =w.heap[b]?):TermRow w' base e v ps P:=
  ⟨hr,fun b hb=>⟨Nat.lt_of_lt_of_le (h.far b hb).1 hz,(h.far b hb).2⟩,fun p hp=>(h.node p hp).imp (fun b o hb=>World.cell?_of_block (a:=⟨b,o,none⟩) (hc b hb)) (fun _ h=>h)⟩
theorem TermRow.below {w w':World} {base:Nat} {e:TypeId} {v:Value} {ps:List (TM×Option Addr×Nat)} {P:Nat→Prop} (h:TermRow w base e v ps P) (hb:Below w.heap.size w w'):TermRow w' base e v ps P:=
 h.kept hb.size (h.row.kept (row:=none) ⟨hb.os,hb.tape,hb.output,hb.size,fun k hk _=>hb.block k hk⟩ (by cases hv:v.ownBlock<;>simp)) (fun b hb'=>hb.block b (h.far b hb').1)
theorem TermRow.alloc {w:World} {base:Nat} {e:TypeId} {v:Value} {ps:List (TM×Option Addr×Nat)} {P:Nat→Prop} (h:TermRow w base e v ps P) (o:Obj):TermRow (w.alloc o) base e v ps P:=
 h.below ((Below.refl _ _).alloc (Nat.le_refl _) _)
theorem TermRow.setCell {w:World} {base:Nat} {e:TypeId} {v:Value} {ps:List (TM×Option Addr×Nat)} {P:Nat→Prop} (h:TermRow w base e v ps P) {a:Addr} (ha:a.block<base) (hP:∀b,P b→b≠a.block) (u:Value):TermRow (w.setCell a u) base e v ps P:=
 h.kept (by simp[World.setCell]) (ownsRow_setCell_below h.row ha u) (fun b hb=>Below.heap_setCell w a u b (hP b hb))
theorem TermRow.push {w w':World} {base:Nat} {e:TypeId} {v v':Value} {ps:List (TM×Option Addr×Nat)} {P Pn:Nat→Prop} {p:TM×Option Addr×Nat} (h:TermRow w base e v ps P)
    (hn:TermIn w Pn p.1 p.2.1 p.2.2) (hf:∀b,Pn b→b<w.heap.size∧v.ownBlock≠some b)
    (hr:w'.ownsRow base e 3 v' (ps.length+1) (flatM ps++cellsM p)) (hg:w.grownBy w' v.ownBlock) (ho:v'.ownBlock=v.ownBlock∨v'.ownBlock=some w.heap.size):TermRow w' base e v' (ps++[p]) (fun b=>P b∨Pn b):=by
  have hb:∀b,P b∨Pn b→b<w.heap.size∧v.ownBlock≠some b:=fun b hb=>hb.elim (h.far b) (hf b);have hcell:∀b o,P b∨Pn b→w'.cell? ⟨b,o,none⟩=w.cell? ⟨b,o,none⟩:=fun b o hb'=>World.cell?_of_block (a:=⟨b,o,none⟩) (hg.block b (hb b hb').1 (fun e=>(hb b hb').2 e.symm));refine⟨by rw[flatM_snoc,List.length_append];exact hr,fun b hb'=>⟨Nat.lt_of_lt_of_le (hb b hb').1 hg.size,fun e=> ?_⟩,fun q hq=> ?_⟩
  · rcases ho with ho|ho
    · exact(hb b hb').2 (ho.symm.trans e)
    · have:=(hb b hb').1;rw[ho]at e;injection e with e;omega
  · rcases List.mem_append.1 hq with hq|hq
    · exact(h.node q hq).imp (fun b o hb'=>hcell b o (.inl hb')) (fun b hb'=> .inl hb')
    · obtain rfl:q=p:=by simpa using hq
      exact hn.imp (fun b o hb'=>hcell b o (.inr hb')) (fun b hb'=> .inr hb')
theorem TermRow.parent {w:World} {base lo:Nat} {e:TypeId} {A:Option Addr} {cap:Nat} {ps:List (TM×Option Addr×Nat)} {P:Nat→Prop} (h:TermRow w base e (.slice A ps.length cap) ps P) (hlo:lo≤base) (hP:∀b,P b→lo≤b)
    (k n:Int):IsTerm w lo w.heap.size (.node k n (ps.map (·.1))) A cap:=by
  have hcap:ps.length≤cap∧cap≤maxLen:=by
    rcases h.row.2 with ⟨h1,h2⟩|⟨g,c,cur,h1,_,_,h2,h3,_⟩
    · injection h1 with _ h3 h4;subst h4;omega
    · injection h1 with _ _ h4;subst h4;exact⟨h2,h3⟩
  have hlen:(ps.map (·.1)).length=ps.length:=List.length_map _;have hnode:∀i (hi:i<(ps.map (·.1)).length),TermIn w (fun b=>lo≤b∧b<w.heap.size) (ps.map (·.1))[i] ((ps[i]?.map fun p=>p.2.1).getD none) ((ps[i]?.map fun p=>p.2.2).getD 0):=by
    intro i hi;have hi':i<ps.length:=by omega
    rw[List.getElem?_eq_getElem hi',List.getElem_map];exact(h.node _ (List.getElem_mem hi')).imp (fun _ _ _=>rfl) (fun b hb=>⟨hP b hb,(h.far b hb).1⟩)
  refine TermIn.mk k n _ A cap (fun i=>(ps[i]?.map fun p=>p.2.1).getD none) (fun i=>(ps[i]?.map fun p=>p.2.2).getD 0) (by omega) hcap.2 (fun h0=> ?_) hnode;rcases h.row.2 with ⟨h1,h2⟩|⟨g,c,cur,h1,hbg,hg,_⟩
  · omega
  · injection h1 with h1 _ _;subst h1;refine⟨g,0,rfl,⟨by omega, ?_⟩,fun i hi=> ?_⟩
    · rcases Nat.lt_or_ge g w.heap.size with hlt|hge
      · exact hlt
      · rw[Array.getElem?_eq_none hge]at hg;cases hg
    · have hi':i<ps.length:=by omega
      have hat:=fun r (hr:r<3)=>(h.row.cellAt (i*3+r) (by omega)).trans (flatM_at ps i r hi' hr);have e:(ps.map (·.1))[i]=ps[i].1:=List.getElem_map _;rw[e,List.getElem?_eq_getElem hi'];have a0:=hat 0 (by omega);rw[Nat.add_zero]at a0;exact⟨by rw[Nat.zero_add,a0];rfl,by rw[Nat.zero_add,hat 1 (by omega)];rfl,by rw[Nat.zero_add,hat 2 (by omega)];rfl⟩
def TestT (w:World) (g:FuncId) (ps:List Value) (l:List TM) (Q:Nat→Bool):Prop:=
 ∀i (h:i<l.length) (lo hi:Nat) (F:Option Addr) (C:Nat) (w':World),Below w.heap.size w w'→IsTerm w' lo hi l[i] F C→hi≤w'.heap.size→
  Calls prog g (⟨termV l[i] F C::ps⟩:Array Value) w' fun e w''=>e= .returned (.bool (Q i))∧Below w'.heap.size w' w''
def TermsAt (w:World) (lo hi:Nat) (A:Option Addr) (l:List TM):Prop:=∀i (h:i<l.length),SubTm w lo hi A l i h
theorem TermsAt.kept {w w':World} {lo hi B:Nat} {A:Option Addr} {l:List TM} (h:TermsAt w lo hi A l) (hb:Below B w w') (hB:hi≤B):TermsAt w' lo hi A l:=fun i hi'=>(h i hi').kept hb hB
theorem tindex_any (l:List TM) (A:Option Addr) (cap lo hi:Nat) (p:Addr) (Q:Nat→Bool) (w:World) (hl:l.length≤maxLen) (hn:TermsAt w lo hi A l) (hhi:hi≤w.heap.size) (ht:TestT w 154 [.pointer (some p)] l Q):
  Calls prog 179 #[.slice A l.length cap,.func (.func 154) #[] #[.pointer (some p)]] w (SomeIdx Q l.length w):=by
 have HN:=hid hn;have HT:=hid ht;unfold maxLen at hl;clear hn ht;go_enter func179,ntmps179;go_wp2_with fail;go_loopw [8] (fun iv wr=>∃i:Nat,i≤l.length∧iv= .int .i64 i∧Below w.heap.size w wr∧Hid (∀j,j<i→Q j=false)) (fun iv _=>l.length - (intOf iv).toNat)
 case atStart=>exact⟨0,Nat.zero_le _,rfl,Below.refl _ _,hid (fun j hj=>by omega)⟩
 case round=>
  obtain⟨i,hi1,rfl,hB,HQ⟩:=hrel;have hz:=hB.size;by_cases hil:i<l.length
  ·obtain⟨b,o,F,C,rfl,hb1,hb2,hx,hnode⟩:=(HN.out i hil).kept hB hhi;obtain⟨x0,x1,x2⟩:=hx;have HR:=hid (HT.out i hil lo hi F C wr hB hnode (by omega));clear HT HN;cases hq:Q i with
   | true=>
    rw[hq]at HR;have HQ2:=hid hq;clear hq;go_wp2_with fail;refine HR.out.mono ?_;rintro e w1 ⟨rfl,hb1⟩;go_wp2_with fail;go_ret;exact⟨_,rfl,.inr ⟨by omega,i,hil,HQ2.out⟩,hB.trans (hb1.mono hz)⟩
   | false=>
    rw[hq]at HR;have HQ2:=hid hq;clear hq;go_wp2_with fail;refine HR.out.mono ?_;rintro e w1 ⟨rfl,hb1⟩;go_wp2_with fail;go_roundw
    case rel=>
     refine⟨i+1,by omega,rfl,hB.trans (hb1.mono hz),hid (fun j hj=> ?_)⟩;by_cases e:j<i
     ·exact HQ.out j e
     ·obtain rfl:j=i:=by omega
      exact HQ2.out
    case measure=>simp[intOf];omega
  ·obtain rfl:i=l.length:=by omega
   clear HT HN;go_wp2_with fail;go_ret;exact⟨_,rfl,.inl ⟨rfl,HQ.out⟩,hB⟩
def tatB (f:TM→Bool) (l:List TM) (i:Nat):Bool:=match l[i]? with|some t=>f t|none=>true
theorem tatB_of (f:TM→Bool) {l:List TM} {i:Nat} (h:i<l.length):tatB f l i=f l[i]:=by
 unfold tatB;rw[List.getElem?_eq_getElem h]
end Go.Proofs.YtchllgkgjompgaaGreatDoor
