import Derived.Test.YtchllgkgjompgaaGreatDoorS6
import Derived.Test.YtchllgkgjompgaaGreatDoorR1
import Derived.Test.YtchllgkgjompgaaGreatDoorELib
import Derived.Shelf.Spec.SlicesGrow
import Derived.Deep.RegionLaw
import Derived.Deep.Cut
namespace Go.Proofs.YtchllgkgjompgaaGreatDoor
open Go.RowKit
set_option linter.unusedVariables false
set_option maxRecDepth 100000
open Lib(hid)
open Go.Proofs.Tryz
def IntP (w:World) (P:Nat→Prop) (A:Option Addr) (l:List Int):Prop:=
 ∀i (h:i<l.length),∃b o,A=some ⟨b,o,none⟩∧P b∧w.cell? ⟨b,o+i,none⟩=some (.int .i64 l[i])
theorem IntP.imp {w w':World} {P P':Nat→Prop} {A:Option Addr} {l:List Int} (h:IntP w P A l) (hw:∀b o,P b→w'.cell? ⟨b,o,none⟩=w.cell? ⟨b,o,none⟩) (hP:∀b,P b→P' b):IntP w' P' A l:=fun i hi=>by
 obtain⟨b,o,hA,h1,h2⟩:=h i hi;exact⟨b,o,hA,hP b h1,(hw b _ h1).trans h2⟩
structure IsEntP (w:World) (P:Nat→Prop) (x:ET) (p:EP):Prop where
 hs:x.s.size≤maxLen
 ht:TermIn w P x.t p.T p.tc
 hb:TermIn w P x.b p.B p.bc
 lc:x.c.length≤p.cc
 mc:p.cc≤maxLen
 hc:IntP w P p.C x.c
 ld:x.d.length≤p.dc
 md:p.dc≤maxLen
 hd:IntP w P p.D x.d
 ra:x.a≤9223372036854775807
theorem IsEntP.imp {w w':World} {P P':Nat→Prop} {x:ET} {p:EP} (h:IsEntP w P x p) (hw:∀b o,P b→w'.cell? ⟨b,o,none⟩=w.cell? ⟨b,o,none⟩) (hP:∀b,P b→P' b):IsEntP w' P' x p:=
 ⟨h.hs,h.ht.imp hw hP,h.hb.imp hw hP,h.lc,h.mc,h.hc.imp hw hP,h.ld,h.md,h.hd.imp hw hP,h.ra⟩
theorem IsEnt.toP {w:World} {lo hi:Nat} {x:ET} {p:EP} (h:IsEnt w lo hi x p):IsEntP w (fun b=>lo≤b∧b<hi) x p:=
 ⟨h.hs,h.ht,h.hb,h.lc,h.mc,fun i hi0=>by obtain⟨b,o,hA,h1,h2,h3⟩:=h.hc i hi0;exact⟨b,o,hA,⟨h1,h2⟩,h3⟩,h.ld,h.md,fun i hi0=>by obtain⟨b,o,hA,h1,h2,h3⟩:=h.hd i hi0;exact⟨b,o,hA,⟨h1,h2⟩,h3⟩,h.ra⟩
theorem IsEntP.toI {w:World} {P:Nat→Prop} {lo hi:Nat} {x:ET} {p:EP} (h:IsEntP w P x p) (hP:∀b,P b→lo≤b∧b<hi):IsEnt w lo hi x p:=
 ⟨h.hs,h.ht.imp (fun _ _ _=>rfl) hP,h.hb.imp (fun _ _ _=>rfl) hP,h.lc,h.mc,fun i hi0=>by obtain⟨b,o,hA,h1,h2⟩:=h.hc i hi0;exact⟨b,o,hA,(hP b h1).1,(hP b h1).2,h2⟩,h.ld,h.md,fun i hi0=>by obtain⟨b,o,hA,h1,h2⟩:=h.hd i hi0;exact⟨b,o,hA,(hP b h1).1,(hP b h1).2,h2⟩,h.ra⟩
def cellsE (p:ET×EP):List Value:=[.int .i64 p.1.k,.string p.1.s,.int .i64 p.1.t.k,.int .i64 p.1.t.n,.slice p.2.T p.1.t.l.length p.2.tc,.int .i64 p.1.b.k,.int .i64 p.1.b.n,.slice p.2.B p.1.b.l.length p.2.bc,
 .int .i64 p.1.f,.int .i64 p.1.p,.int .i64 p.1.a,.int .i64 p.1.i,.int .i64 p.1.v,.slice p.2.C p.1.c.length p.2.cc,.slice p.2.D p.1.d.length p.2.dc]
theorem cellsE_len (p:ET×EP):(cellsE p).length=15:=rfl
theorem cellsE_one (p:ET×EP):∀u∈cellsE p,u.oneCell'=true:=by
 intro u hu;simp[cellsE]at hu;rcases hu with rfl|rfl|rfl|rfl|rfl|rfl|rfl|rfl|rfl|rfl|rfl|rfl|rfl|rfl|rfl<;>rfl
def flatE (ps:List (ET×EP)):List Value:=ps.flatMap cellsE
theorem flatE_snoc (ps:List (ET×EP)) (p:ET×EP):flatE (ps++[p])=flatE ps++cellsE p:=by
 unfold flatE;rw[List.flatMap_append];simp
theorem flatE_at:∀(ps:List (ET×EP)) (j r:Nat) (h:j<ps.length),r<15→(flatE ps)[j*15+r]? =(cellsE ps[j])[r]?
 | p::ps,0,r,_,hr=>by
  show(cellsE p++flatE ps)[0*15+r]? =_
  rw[List.getElem?_append_left (by rw[cellsE_len];omega)];simp
 | p::ps,j+1,r,h,hr=>by
  show(cellsE p++flatE ps)[(j+1)*15+r]? =_
  rw[List.getElem?_append_right (by rw[cellsE_len];omega)];have e:(j+1)*15+r - (cellsE p).length=j*15+r:=by rw[cellsE_len];omega
  rw[e,flatE_at ps j r (by simpa using h) hr];rfl
structure EntRow (w:World) (base:Nat) (v:Value) (ps:List (ET×EP)) (P:Nat→Prop):Prop where
 row:w.ownsRow base 43 15 v ps.length (flatE ps)
 far:∀b,P b→b<w.heap.size∧v.ownBlock≠some b
 node:∀p∈ps,IsEntP w P p.1 p.2
theorem EntRow.kept {w w':World} {base:Nat} {v:Value} {ps:List (ET×EP)} {P:Nat→Prop} (h:EntRow w base v ps P) (hz:w.heap.size≤w'.heap.size)
    (hr:w'.ownsRow base 43 15 v ps.length (flatE ps)) (hc:∀b,P b→w'.heap[b]? =w.heap[b]?):EntRow w' base v ps P:=
  ⟨hr,fun b hb=>⟨Nat.lt_of_lt_of_le (h.far b hb).1 hz,(h.far b hb).2⟩,fun p hp=>(h.node p hp).imp (fun b o hb=>World.cell?_of_block (a:=⟨b,o,none⟩) (hc b hb)) (fun _ h=>h)⟩
theorem EntRow.below {w w':World} {base:Nat} {v:Value} {ps:List (ET×EP)} {P:Nat→Prop} (h:EntRow w base v ps P) (hb:Below w.heap.size w w'):EntRow w' base v ps P:=
 h.kept hb.size (h.row.kept (row:=none) ⟨hb.os,hb.tape,hb.output,hb.size,fun k hk _=>hb.block k hk⟩ (by cases hv:v.ownBlock<;>simp)) (fun b hb'=>hb.block b (h.far b hb').1)
theorem EntRow.alloc {w:World} {base:Nat} {v:Value} {ps:List (ET×EP)} {P:Nat→Prop} (h:EntRow w base v ps P) (o:Obj):EntRow (w.alloc o) base v ps P:=
 h.below ((Below.refl _ _).alloc (Nat.le_refl _) _)
theorem EntRow.push {w w':World} {base:Nat} {v v':Value} {ps:List (ET×EP)} {P Pn:Nat→Prop} {p:ET×EP} (h:EntRow w base v ps P)
    (hn:IsEntP w Pn p.1 p.2) (hf:∀b,Pn b→b<w.heap.size∧v.ownBlock≠some b)
    (hr:w'.ownsRow base 43 15 v' (ps.length+1) (flatE ps++cellsE p)) (hg:w.grownBy w' v.ownBlock) (ho:v'.ownBlock=v.ownBlock∨v'.ownBlock=some w.heap.size):EntRow w' base v' (ps++[p]) (fun b=>P b∨Pn b):=by
  have hb:∀b,P b∨Pn b→b<w.heap.size∧v.ownBlock≠some b:=fun b hb=>hb.elim (h.far b) (hf b);have hcell:∀b o,P b∨Pn b→w'.cell? ⟨b,o,none⟩=w.cell? ⟨b,o,none⟩:=fun b o hb'=>World.cell?_of_block (a:=⟨b,o,none⟩) (hg.block b (hb b hb').1 (fun e=>(hb b hb').2 e.symm));refine⟨by rw[flatE_snoc,List.length_append];exact hr,fun b hb'=>⟨Nat.lt_of_lt_of_le (hb b hb').1 hg.size,fun e=> ?_⟩,fun q hq=> ?_⟩
  · rcases ho with ho|ho
    · exact(hb b hb').2 (ho.symm.trans e)
    · have:=(hb b hb').1;rw[ho]at e;injection e with e;omega
  · rcases List.mem_append.1 hq with hq|hq
    · exact(h.node q hq).imp (fun b o hb'=>hcell b o (.inl hb')) (fun b hb'=> .inl hb')
    · obtain rfl:q=p:=by simpa using hq
      exact hn.imp (fun b o hb'=>hcell b o (.inr hb')) (fun b hb'=> .inr hb')
theorem EntRow.ents {w:World} {base:Nat} {A:Option Addr} {cap:Nat} {ps:List (ET×EP)} {P:Nat→Prop} (h:EntRow w base (.slice A ps.length cap) ps P):EntsAt w 0 w.heap.size A (ps.map (·.1))∧ps.length≤cap∧cap≤maxLen:=by
 have hcap:ps.length≤cap∧cap≤maxLen:=by
  rcases h.row.2 with ⟨h1,h2⟩|⟨g,c,cur,h1,_,_,h2,h3,_⟩
  ·injection h1 with _ h3 h4;subst h4;omega
  ·injection h1 with _ _ h4;subst h4;exact⟨h2,h3⟩
 refine⟨fun i hi=> ?_,hcap.1,hcap.2⟩;have hi':i<ps.length:=by simpa using hi
 obtain⟨g,c',hv,_,_⟩:=h.row.form (by omega);injection hv with hv _ _;subst hv;have hb:=h.row.lt g rfl;have hat:=fun r (hr:r<15)=>(h.row.cellAt (i*15+r) (by omega)).trans (flatE_at ps i r hi' hr);have e:(ps.map (·.1))[i]=ps[i].1:=List.getElem_map _;refine⟨g,0,ps[i].2,rfl,Nat.zero_le _,hb.2, ?_, ?_⟩
 ·rw[e,Nat.zero_add];have a0:=hat 0 (by omega);rw[Nat.add_zero]at a0;exact⟨a0,hat 1 (by omega),hat 2 (by omega),hat 3 (by omega),hat 4 (by omega),hat 5 (by omega),hat 6 (by omega),hat 7 (by omega),hat 8 (by omega),hat 9 (by omega),hat 10 (by omega),hat 11 (by omega),hat 12 (by omega),hat 13 (by omega),hat 14 (by omega)⟩
 ·rw[e];exact(h.node _ (List.getElem_mem hi')).toI (fun b hb=>⟨Nat.zero_le _,(h.far b hb).1⟩)
theorem EntRow.entsP {w:World} {base:Nat} {A:Option Addr} {cap:Nat} {ps:List (ET×EP)} {P:Nat→Prop} (h:EntRow w base (.slice A ps.length cap) ps P) (hP:∀b,P b→base≤b):EntsAt w base w.heap.size A (ps.map (·.1))∧ps.length≤cap∧cap≤maxLen:=by
 have hcap:ps.length≤cap∧cap≤maxLen:=by
  rcases h.row.2 with ⟨h1,h2⟩|⟨g,c,cur,h1,_,_,h2,h3,_⟩
  ·injection h1 with _ h3 h4;subst h4;omega
  ·injection h1 with _ _ h4;subst h4;exact⟨h2,h3⟩
 refine⟨fun i hi=> ?_,hcap.1,hcap.2⟩;have hi':i<ps.length:=by simpa using hi
 obtain⟨g,c',hv,_,_⟩:=h.row.form (by omega);injection hv with hv _ _;subst hv;have hb:=h.row.lt g rfl;have hat:=fun r (hr:r<15)=>(h.row.cellAt (i*15+r) (by omega)).trans (flatE_at ps i r hi' hr);have e:(ps.map (·.1))[i]=ps[i].1:=List.getElem_map _;refine⟨g,0,ps[i].2,rfl,hb.1,hb.2, ?_, ?_⟩
 ·rw[e,Nat.zero_add];have a0:=hat 0 (by omega);rw[Nat.add_zero]at a0;exact⟨a0,hat 1 (by omega),hat 2 (by omega),hat 3 (by omega),hat 4 (by omega),hat 5 (by omega),hat 6 (by omega),hat 7 (by omega),hat 8 (by omega),hat 9 (by omega),hat 10 (by omega),hat 11 (by omega),hat 12 (by omega),hat 13 (by omega),hat 14 (by omega)⟩
 ·rw[e];exact(h.node _ (List.getElem_mem hi')).toI (fun b hb=>⟨hP b hb,(h.far b hb).1⟩)
theorem EntsAt.agree {w w':World} {lo hi:Nat} {A:Option Addr} {l:List ET} (h:EntsAt w lo hi A l) (hw:∀b o,lo≤b→b<hi→w'.cell? ⟨b,o,none⟩=w.cell? ⟨b,o,none⟩):EntsAt w' lo hi A l:=fun i hi0=>by
  obtain⟨b,o,p,hA,q1,q2,q3,q4⟩:=h i hi0;have e:∀q,w'.cell? ⟨b,q,none⟩=w.cell? ⟨b,q,none⟩:=fun q=>hw b q q1 q2;obtain⟨x0,x1,x2,x3,x4,x5,x6,x7,x8,x9,x10,x11,x12,x13,x14⟩:=q3;exact⟨b,o,p,hA,q1,q2,⟨by rw[e,x0],by rw[e,x1],by rw[e,x2],by rw[e,x3],by rw[e,x4],by rw[e,x5],by rw[e,x6],by rw[e,x7],by rw[e,x8],by rw[e,x9],by rw[e,x10],by rw[e,x11],by rw[e,x12],by rw[e,x13],by rw[e,x14]⟩,
    (q4.toP.imp (fun b o hb=>hw b o hb.1 hb.2) (fun _ hb=>hb)).toI (fun _ hb=>hb)⟩
theorem infoE:(prog.info? 43).map (fun i=>(i.zero,i.size,i.bytes))=some (some (.agg #[.int .i64 0,.string ⟨#[]⟩,.int .i64 0,.int .i64 0,.slice none 0 0,.int .i64 0,.int .i64 0,.slice none 0 0,.int .i64 0,.int .i64 0,.int .i64 0,.int .i64 0,.int .i64 0,.slice none 0 0,.slice none 0 0]),15,192):=by kernel_rfl
def zeroE:Value:= .agg #[.int .i64 0,.string ⟨#[]⟩,.int .i64 0,.int .i64 0,.slice none 0 0,.int .i64 0,.int .i64 0,.slice none 0 0,.int .i64 0,.int .i64 0,.int .i64 0,.int .i64 0,.int .i64 0,.slice none 0 0,.slice none 0 0]
theorem info_entry:∃i,prog.info? 43=some i∧i.zero=some zeroE∧i.size=15∧i.bytes=192:=by
 obtain⟨i0,h1,h2,h3,h4⟩:=info_parts infoE;exact⟨i0,h1,h2,h3,h4⟩
theorem zeroE_size:zeroE.cells.size=15:=by decide
def GrowE (w:World) (e:Ending) (w':World):Prop:=∃v,e= .returned v∧w'.ownsRow w.heap.size 43 15 v 0 []∧Below w.heap.size w w'
theorem growE_any (n:Nat) (hn:n≤8192) (w:World):Calls prog 76 #[.slice none 0 0,.int .i64 (n:Int)] w (GrowE w):=by
 obtain⟨i0,hi0,hz0,hz1,hz2⟩:=info_entry;by_cases h0:n=0
 ·subst h0;refine(Go.Proofs.Any8.slices_Grow_room Tryz.laysGrowE none 0 0 0 w (by omega) (by omega) (by omega) (by omega)).mono ?_;rintro e w' ⟨rfl,rfl⟩;exact⟨_,rfl,World.ownsRow_nil _ _ _ _,Below.refl _ _⟩
 ·refine(Go.Proofs.Any8.slices_Grow_grow Tryz.laysGrowE i0 _ hi0 hz0 (by omega) none 0 0 n [] w (by omega) (by omega) (by rw[hz2];omega) (by omega) (by simp) (fun _=>rfl) (fun a h=>by cases h)).mono ?_;rintro e w' ⟨rfl,rfl⟩;have h1:=grownCap_ge w (0+n) 0 43;have h2:=grownCap_le_maxLen w (0+n) 0 43 (by unfold maxLen;omega);refine⟨_,rfl,⟨by simp,.inr ⟨w.heap.size,_,_,rfl,Nat.le_refl _,heap_alloc_new _ _,Nat.zero_le _,h2, ?_,by simp⟩⟩,((Below.refl _ _).drew).alloc (by simp) _⟩;simp only[Array.size_append,List.size_toArray,size_zeroCells];rw[zeroE_size];show 0+(0+n - 0)*15+(grownCap w (0+n) 0 43 - (0+n))*15=grownCap w (0+n) 0 43*15
  omega
def copyT (t:TM):TM:=if shapedB t then t else .node 0 0 []
def copyE (x:ET):ET:={x with t:=copyT x.t,b:=copyT x.b}
def CopyTo (t:TM) (w:World) (e:Ending) (w':World):Prop:=
 ∃A c,e= .returned (termV (copyT t) A c)∧TermIn w' (fun b=>w.heap.size≤b∧b<w'.heap.size) (copyT t) A c∧Below w.heap.size w w'
theorem copy_to (t:TM) (lo hi:Nat) (A:Option Addr) (cap:Nat) (w:World) (h:IsTerm w lo hi t A cap) (hhi:hi≤w.heap.size) (hS:ShapesM w):
    Calls prog 54 #[termV t A cap] w (CopyTo t w):=
  (tcopy_any t lo hi A cap w h hhi hS).mono fun e w' h=>by
    rcases h with ⟨hs,A',c',P,he,hz,hP,_,hb⟩|⟨hs,he,hb⟩
    · unfold CopyTo copyT;rw[hs,if_pos rfl];exact⟨A',c',he,hz.term.imp (fun _ _ _=>rfl) hP,hb⟩
    · unfold CopyTo copyT;rw[hs,if_neg (by decide)];exact⟨none,0,he,leaf_in _ _ _ _,hb⟩
theorem ent_setT (x:ET) (p:EP) (t:TM) (T:Option Addr) (c:Nat):(((entC x p).setIfInBounds 2 (.int .i64 t.k)).setIfInBounds 3 (.int .i64 t.n)).setIfInBounds 4 (.slice T t.l.length c)=entC {x with t:=t} {p with T:=T,tc:=c}:=rfl
theorem ent_setB (x:ET) (p:EP) (t:TM) (T:Option Addr) (c:Nat):(((entC x p).setIfInBounds 5 (.int .i64 t.k)).setIfInBounds 6 (.int .i64 t.n)).setIfInBounds 7 (.slice T t.l.length c)=entC {x with b:=t} {p with B:=T,bc:=c}:=rfl
theorem ent_setC (x:ET) (p:EP) (T:Option Addr) (c:Nat):(entC x p).setIfInBounds 13 (.slice T x.c.length c)=entC x {p with C:=T,cc:=c}:=rfl
theorem ent_setD (x:ET) (p:EP) (T:Option Addr) (c:Nat):(entC x p).setIfInBounds 14 (.slice T x.d.length c)=entC x {p with D:=T,dc:=c}:=rfl
theorem Bk.setT {w:World} {g:Nat} {e:TypeId} {x:ET} {p:EP} (h:Bk w g e (entC x p)) (t:TM) (T:Option Addr) (c:Nat):
  Bk (((w.setCell ⟨g,2,none⟩ (.int .i64 t.k)).setCell ⟨g,3,none⟩ (.int .i64 t.n)).setCell ⟨g,4,none⟩ (.slice T t.l.length c)) g e (entC {x with t:=t} {p with T:=T,tc:=c}):=by
 rw[←ent_setT];exact((h.at_ 2 _).at_ 3 _).at_ 4 _
theorem Bk.setB {w:World} {g:Nat} {e:TypeId} {x:ET} {p:EP} (h:Bk w g e (entC x p)) (t:TM) (T:Option Addr) (c:Nat):
  Bk (((w.setCell ⟨g,5,none⟩ (.int .i64 t.k)).setCell ⟨g,6,none⟩ (.int .i64 t.n)).setCell ⟨g,7,none⟩ (.slice T t.l.length c)) g e (entC {x with b:=t} {p with B:=T,bc:=c}):=by
 rw[←ent_setB];exact((h.at_ 5 _).at_ 6 _).at_ 7 _
theorem Bk.setC {w:World} {g:Nat} {e:TypeId} {x:ET} {p:EP} (h:Bk w g e (entC x p)) (T:Option Addr) (c:Nat):Bk (w.setCell ⟨g,13,none⟩ (.slice T x.c.length c)) g e (entC x {p with C:=T,cc:=c}):=by
 rw[←ent_setC];exact h.at_ 13 _
theorem Bk.setD {w:World} {g:Nat} {e:TypeId} {x:ET} {p:EP} (h:Bk w g e (entC x p)) (T:Option Addr) (c:Nat):Bk (w.setCell ⟨g,14,none⟩ (.slice T x.d.length c)) g e (entC x {p with D:=T,dc:=c}):=by
 rw[←ent_setD];exact h.at_ 14 _
theorem cell_three {w:World} {g b o:Nat} (h:b≠g) (i j k:Nat) (u v z:Value):(((w.setCell ⟨g,i,none⟩ u).setCell ⟨g,j,none⟩ v).setCell ⟨g,k,none⟩ z).cell? ⟨b,o,none⟩=w.cell? ⟨b,o,none⟩:=by
 have hne:∀o',(⟨g,o',none⟩:Addr)≠⟨b,o,none⟩:=fun o' e=>h (congrArg Addr.block e).symm;rw[World.cell?_setCell_other _ _ _ _ (hne _),World.cell?_setCell_other _ _ _ _ (hne _),World.cell?_setCell_other _ _ _ _ (hne _)]
theorem size_threeG (w:World) (g i j k:Nat) (u v z:Value):(((w.setCell ⟨g,i,none⟩ u).setCell ⟨g,j,none⟩ v).setCell ⟨g,k,none⟩ z).heap.size=w.heap.size:=by
 simp[World.setCell]
def MidC (x:ET) (p:EP) (g:Nat) (X w:World):Prop:=
 ∃T c B d,Bk w g 43 (entC (copyE x) {p with T:=T,tc:=c,B:=B,bc:=d})∧TermIn w (fun b=>X.heap.size≤b∧b<w.heap.size) (copyT x.t) T c∧TermIn w (fun b=>X.heap.size≤b∧b<w.heap.size) (copyT x.b) B d∧Below g X w∧X.heap.size≤w.heap.size
theorem mid_tb {x:ET} {p:EP} {g:Nat} {X V:World} {T B:Option Addr} {c d:Nat} (hg:g<X.heap.size) (hk:Bk V g 43 (entC x p)) (h1:TermIn V (fun b=>X.heap.size≤b∧b<V.heap.size) (copyT x.t) T c) (h2:TermIn V (fun b=>X.heap.size≤b∧b<V.heap.size) (copyT x.b) B d) (hb:Below X.heap.size X V):
  MidC x p g X ((((((V.setCell ⟨g,2,none⟩ (.int .i64 (copyT x.t).k)).setCell ⟨g,3,none⟩ (.int .i64 (copyT x.t).n)).setCell ⟨g,4,none⟩ (.slice T (copyT x.t).l.length c)).setCell ⟨g,5,none⟩ (.int .i64 (copyT x.b).k)).setCell ⟨g,6,none⟩ (.int .i64 (copyT x.b).n)).setCell ⟨g,7,none⟩ (.slice B (copyT x.b).l.length d)):=by
 have hs:=hb.size;have hz:((((((V.setCell ⟨g,2,none⟩ (.int .i64 (copyT x.t).k)).setCell ⟨g,3,none⟩ (.int .i64 (copyT x.t).n)).setCell ⟨g,4,none⟩ (.slice T (copyT x.t).l.length c)).setCell ⟨g,5,none⟩ (.int .i64 (copyT x.b).k)).setCell ⟨g,6,none⟩ (.int .i64 (copyT x.b).n)).setCell ⟨g,7,none⟩ (.slice B (copyT x.b).l.length d)).heap.size=V.heap.size:=by rw[size_threeG,size_threeG]
 refine⟨T,c,B,d,(hk.setT _ T c).setB _ B d,h1.imp (fun b o hb'=> ?_) (fun b hb'=>by rw[hz];exact hb'),h2.imp (fun b o hb'=> ?_) (fun b hb'=>by rw[hz];exact hb'), ?_,by rw[hz];exact hs⟩
 ·rw[cell_three (by omega),cell_three (by omega)]
 ·rw[cell_three (by omega),cell_three (by omega)]
 ·exact((((((hb.mono (by omega)).setCell (by simp) _).setCell (by simp) _).setCell (by simp) _).setCell (by simp) _).setCell (by simp) _).setCell (by simp) _
theorem mid_bt {x:ET} {p:EP} {g:Nat} {X V:World} {T B:Option Addr} {c d:Nat} (hg:g<X.heap.size) (hk:Bk V g 43 (entC x p)) (h1:TermIn V (fun b=>X.heap.size≤b∧b<V.heap.size) (copyT x.t) T c) (h2:TermIn V (fun b=>X.heap.size≤b∧b<V.heap.size) (copyT x.b) B d) (hb:Below X.heap.size X V):
  MidC x p g X ((((((V.setCell ⟨g,5,none⟩ (.int .i64 (copyT x.b).k)).setCell ⟨g,6,none⟩ (.int .i64 (copyT x.b).n)).setCell ⟨g,7,none⟩ (.slice B (copyT x.b).l.length d)).setCell ⟨g,2,none⟩ (.int .i64 (copyT x.t).k)).setCell ⟨g,3,none⟩ (.int .i64 (copyT x.t).n)).setCell ⟨g,4,none⟩ (.slice T (copyT x.t).l.length c)):=by
 have hs:=hb.size;have hz:((((((V.setCell ⟨g,5,none⟩ (.int .i64 (copyT x.b).k)).setCell ⟨g,6,none⟩ (.int .i64 (copyT x.b).n)).setCell ⟨g,7,none⟩ (.slice B (copyT x.b).l.length d)).setCell ⟨g,2,none⟩ (.int .i64 (copyT x.t).k)).setCell ⟨g,3,none⟩ (.int .i64 (copyT x.t).n)).setCell ⟨g,4,none⟩ (.slice T (copyT x.t).l.length c)).heap.size=V.heap.size:=by rw[size_threeG,size_threeG]
 refine⟨T,c,B,d,(hk.setB _ B d).setT _ T c,h1.imp (fun b o hb'=> ?_) (fun b hb'=>by rw[hz];exact hb'),h2.imp (fun b o hb'=> ?_) (fun b hb'=>by rw[hz];exact hb'), ?_,by rw[hz];exact hs⟩
 ·rw[cell_three (by omega),cell_three (by omega)]
 ·rw[cell_three (by omega),cell_three (by omega)]
 ·exact((((((hb.mono (by omega)).setCell (by simp) _).setCell (by simp) _).setCell (by simp) _).setCell (by simp) _).setCell (by simp) _).setCell (by simp) _
theorem info_int:∃i,prog.info? 3=some i∧i.zero=some (.int .i64 0)∧i.size=1∧i.bytes=8:=by
 obtain⟨i0,h1,h2,h3,h4⟩:=info_parts infoI;exact⟨i0,h1,h2,h3,h4⟩
theorem IntRow.src {w:World} {lo hi:Nat} {A:Option Addr} {l:List Int} (h:IntRow w lo hi A l):Src w 1 A l.length (l.map (Value.int .i64)):=
 ⟨by simp,fun h0=>by
  obtain⟨b,o,hA,_,_,_⟩:=h 0 h0;refine⟨⟨b,o,none⟩,hA,fun j u hu=> ?_⟩;have hj:j<l.length:=by
   rcases Nat.lt_or_ge j l.length with hj|hj
   ·exact hj
   ·rw[List.getElem?_eq_none (by simpa using hj)]at hu;cases hu
  obtain⟨b',o',hA',_,_,hc⟩:=h j hj;rw[hA]at hA';injection hA' with hA';injection hA' with e1 e2 e3;subst e1 e2;rw[Addr.add_lit,hc];rw[List.getElem?_map,List.getElem?_eq_getElem hj]at hu;exact hu⟩
theorem ints_one (l:List Int):∀u∈l.map (Value.int .i64),u.oneCell'=true:=by
 intro u hu;obtain⟨n,_,rfl⟩:=List.mem_map.1 hu;rfl
def IntsTo (base:Nat) (l:List Int) (V:World) (v:Value) (V':World):Prop:=
 ∃A c,v= .slice A l.length c∧l.length≤c∧c≤maxLen∧IntP V' (fun b=>base≤b∧b<V'.heap.size) A l∧Below base V V'
theorem ints_to {V V':World} {base n:Nat} {v:Value} {l:List Int} (hl:l.length=n) (hz:base≤V.heap.size) (h:AppTo V base 3 1 (.slice none 0 0) (0+n) ([]++l.map (Value.int .i64)) v V'):IntsTo base l V v V':=by
 subst hl;obtain⟨h1,hg,ho⟩:=h;rw[Nat.zero_add,List.nil_append]at h1;have hb:Below base V V':=(Below.refl base V).grown hg hz (fun g e=>by cases e);have hcap:∃A c,v= .slice A l.length c∧l.length≤c∧c≤maxLen:=by
  rcases h1.2 with ⟨h2,h3⟩|⟨g,c,cur,h2,_,_,h3,h4,_⟩
  ·exact⟨none,0,by rw[h2,h3],by omega,by unfold maxLen;omega⟩
  ·exact⟨_,c,h2,h3,h4⟩
 obtain⟨A,c,hv,hc1,hc2⟩:=hcap;refine⟨A,c,hv,hc1,hc2,fun i hi=> ?_,hb⟩;obtain⟨g,c',hv',hgb,_⟩:=h1.form (by omega);rw[hv]at hv';injection hv' with hA _ _;subst hA;have hlt:=h1.lt g (by rw[hv];rfl);refine⟨g,0,rfl,⟨hlt.1,hlt.2⟩, ?_⟩;rw[hv]at h1;have hat:=h1.cellAt i (by rw[Nat.mul_one];exact hi);rw[Nat.zero_add,hat,List.getElem?_map,List.getElem?_eq_getElem hi];rfl
def EndC (x:ET) (g:Nat) (X w:World):Prop:=
 ∃q,Bk w g 43 (entC (copyE x) q)∧IsEntP w (fun b=>X.heap.size≤b∧b<w.heap.size) (copyE x) q∧Below g X w∧X.heap.size≤w.heap.size
theorem cell_two {w:World} {g b o:Nat} (h:b≠g) (i j:Nat) (u v:Value):((w.setCell ⟨g,i,none⟩ u).setCell ⟨g,j,none⟩ v).cell? ⟨b,o,none⟩=w.cell? ⟨b,o,none⟩:=by
 have hne:∀o',(⟨g,o',none⟩:Addr)≠⟨b,o,none⟩:=fun o' e=>h (congrArg Addr.block e).symm;rw[World.cell?_setCell_other _ _ _ _ (hne _),World.cell?_setCell_other _ _ _ _ (hne _)]
theorem end_cd {x:ET} {p:EP} {g:Nat} {X Y V:World} {T B C D:Option Addr} {c d cc dc:Nat} (hg:g<X.heap.size) (hs:x.s.size≤maxLen) (ha:x.a≤9223372036854775807) (hk:Bk V g 43 (entC (copyE x) {p with T:=T,tc:=c,B:=B,bc:=d}))
    (h1:TermIn Y (fun b=>X.heap.size≤b∧b<Y.heap.size) (copyT x.t) T c) (h2:TermIn Y (fun b=>X.heap.size≤b∧b<Y.heap.size) (copyT x.b) B d) (hXY:Below g X Y) (hz:X.heap.size≤Y.heap.size) (hYV:Below Y.heap.size Y V)
    (lc:x.c.length≤cc) (mc:cc≤maxLen) (hc:IntP V (fun b=>Y.heap.size≤b∧b<V.heap.size) C x.c) (ld:x.d.length≤dc) (md:dc≤maxLen) (hd:IntP V (fun b=>Y.heap.size≤b∧b<V.heap.size) D x.d):
    EndC x g X ((V.setCell ⟨g,13,none⟩ (.slice C x.c.length cc)).setCell ⟨g,14,none⟩ (.slice D x.d.length dc))∧EndC x g X ((V.setCell ⟨g,14,none⟩ (.slice D x.d.length dc)).setCell ⟨g,13,none⟩ (.slice C x.c.length cc)):=by
  have hs':=hYV.size;have hz1:((V.setCell ⟨g,13,none⟩ (.slice C x.c.length cc)).setCell ⟨g,14,none⟩ (.slice D x.d.length dc)).heap.size=V.heap.size:=by simp[World.setCell]
  have hz2:((V.setCell ⟨g,14,none⟩ (.slice D x.d.length dc)).setCell ⟨g,13,none⟩ (.slice C x.c.length cc)).heap.size=V.heap.size:=by simp[World.setCell]
  have hbl:Below g X V:=hXY.trans (hYV.mono (by omega));have e:IsEntP V (fun b=>X.heap.size≤b∧b<V.heap.size) (copyE x) {p with T:=T,tc:=c,B:=B,bc:=d,C:=C,cc:=cc,D:=D,dc:=dc}:=
    ⟨hs,h1.imp (fun b o hb=>hYV.cell (p:=⟨b,o,none⟩) hb.2) (fun b hb=>⟨hb.1,by omega⟩),h2.imp (fun b o hb=>hYV.cell (p:=⟨b,o,none⟩) hb.2) (fun b hb=>⟨hb.1,by omega⟩),lc,mc,hc.imp (fun _ _ _=>rfl) (fun b hb=>⟨by omega,hb.2⟩),ld,md,hd.imp (fun _ _ _=>rfl) (fun b hb=>⟨by omega,hb.2⟩),ha⟩
  constructor
  · refine⟨{p with T:=T,tc:=c,B:=B,bc:=d,C:=C,cc:=cc,D:=D,dc:=dc},(hk.setC C cc).setD D dc,e.imp (fun b o hb=>cell_two (by omega) _ _ _ _) (fun b hb=>by rw[hz1];exact hb), ?_,by rw[hz1];omega⟩;exact(hbl.setCell (by simp) _).setCell (by simp) _
  · refine⟨{p with T:=T,tc:=c,B:=B,bc:=d,C:=C,cc:=cc,D:=D,dc:=dc},(hk.setD D dc).setC C cc,e.imp (fun b o hb=>cell_two (by omega) _ _ _ _) (fun b hb=>by rw[hz2];exact hb), ?_,by rw[hz2];omega⟩;exact(hbl.setCell (by simp) _).setCell (by simp) _
def CopyRel (l:List ET) (w:World) (nv iv:Value) (wr:World):Prop:=
 ∃(i:Nat) (ps:List (ET×EP)) (P:Nat→Prop),i≤l.length∧iv= .int .i64 i∧Below w.heap.size w wr∧EntRow wr w.heap.size nv ps P∧ps.length=i∧ps.map (·.1)=(l.take i).map copyE∧(∀b,P b→w.heap.size≤b)
def GivesEn (l:List ET) (w:World) (e:Ending) (w':World):Prop:=∃A c,e= .returned (.slice A l.length c)∧EntsAt w' w.heap.size w'.heap.size A l∧l.length≤c∧Below w.heap.size w w'
set_option maxHeartbeats 8000000 in
theorem scopyP_any (l:List ET) (A:Option Addr) (cap lo hi:Nat) (w:World) (hl:l.length≤600) (hcd:∀x∈l,x.c.length≤600∧x.d.length≤600) (hn:EntsAt w lo hi A l) (hhi:hi≤w.heap.size) (hS:ShapesM w):
    Calls prog 51 #[.slice A l.length cap] w (GivesEn (l.map copyE) w):=by
  obtain⟨i0,hi0,hz0,hz1,hz2⟩:=info_entry;have HN:=hid hn;have HS:=hid hS;have HCDA:=hid hcd;obtain⟨n,hnn⟩:∃n,l.length=n:=⟨_,rfl⟩;have HNN:=hid hnn;rw[hnn]at hl⊢;have hll:(n:Int)≤600:=by omega
  have CG:=hid (growE_any n (by omega) w);clear hn hS hl hnn hcd;go_enter func51,ntmps51;go_wp2_with fail;refine CG.out.mono ?_;rintro e w1 ⟨v0,rfl,ho0,hbx⟩;obtain⟨a0,cc0,rfl⟩:=own_sliceM ho0;have HO0:=hid ho0;have HB0:=hid hbx;clear ho0 hbx CG;go_wp2_with fail;go_loopw [3,11] (CopyRel l w) (fun _ iv _=>n - (intOf iv).toNat)
  case atStart=>exact⟨0,[],fun _=>False,Nat.zero_le _,rfl,HB0.out,⟨HO0.out,fun _ h=>h.elim,fun _ h=>by cases h⟩,rfl,rfl,fun _ h=>h.elim⟩
  case round=>
    obtain⟨i,ps,P,hi1,rfl,hB,hrow,hps,hpm,hPb⟩:=hrel;have HPB:=hid hPb;clear hPb;rw[HNN.out]at hi1;have hz:=hB.size;by_cases hin:i<n
    · have hil:i<l.length:=by rw[HNN.out];exact hin
      obtain⟨b,o,p,hA,q1,q2,hx,hent⟩:=(HN.out i hil).kept hB hhi;subst hA;obtain⟨x,hxx⟩:∃x,l[i]=x:=⟨_,rfl⟩;have HXX:=hid hxx;rw[hxx]at hx hent;obtain⟨x0,x1,x2,x3,x4,x5,x6,x7,x8,x9,x10,x11,x12,x13,x14⟩:=hx;have hbw:b<wr.heap.size:=by omega
      have hi0':(i:Int)<(n:Int):=by omega
      obtain⟨a1,cc1,rfl⟩:=own_sliceM hrow.row;have HROW:=hid hrow;have HPS:=hid hps;have HPM:=hid hpm;have HBB:=hid hB;obtain⟨X,hX⟩:∃X,wr.alloc (.cells (entC x p) 43)=X:=⟨_,rfl⟩;have HWX:=hid (show Below wr.heap.size wr X from by rw[←hX];exact(Below.refl _ _).alloc (Nat.le_refl _) _);have HKX:=hid (show Bk X wr.heap.size 43 (entC x p)from by rw[←hX];exact Bk.new wr _ _);have HXS:=hid (show wr.heap.size<X.heap.size from HKX.out.lt);have HKE:=hid (fun V (hV:Below X.heap.size X V)=>(show Bk V wr.heap.size 43 (entC x p)from HKX.out.below hV HXS.out));have CT:=hid (fun V (hV:Below X.heap.size X V)=>copy_to x.t lo hi p.T p.tc V ((hent.kept (HWX.out.trans (hV.mono HWX.out.size)) (by omega)).ht) (by have:=hV.size;have:=HWX.out.size;omega) (HS.out.kept (HBB.out.trans ((HWX.out.trans (hV.mono HWX.out.size)).mono hz))));have CB:=hid (fun V (hV:Below X.heap.size X V)=>copy_to x.b lo hi p.B p.bc V ((hent.kept (HWX.out.trans (hV.mono HWX.out.size)) (by omega)).hb) (by have:=hV.size;have:=HWX.out.size;omega) (HS.out.kept (HBB.out.trans ((HWX.out.trans (hV.mono HWX.out.size)).mono hz))));have HENT:=hid hent;unfold CopyTo termV at CT CB;have hXe:=hX;unfold entC at hX;have HIC:=hid hent.hc;have HID:=hid hent.hd;have HSS:=hid (show x.s.size≤maxLen∧x.a≤9223372036854775807 from⟨hent.hs,hent.ra⟩);have HCD:=hid (HCDA.out x (hxx ▸ List.getElem_mem hil));clear hxx hent hrow hps hpm hB hi1 hin;go_upto_region 5 with fail
      have k2:X.cell? ⟨wr.heap.size,2,none⟩=some (.int .i64 x.t.k):=HKX.out.cell 2;have k3:X.cell? ⟨wr.heap.size,3,none⟩=some (.int .i64 x.t.n):=HKX.out.cell 3;have k4:X.cell? ⟨wr.heap.size,4,none⟩=some (.slice p.T x.t.l.length p.tc):=HKX.out.cell 4;have k5:X.cell? ⟨wr.heap.size,5,none⟩=some (.int .i64 x.b.k):=HKX.out.cell 5;have k6:X.cell? ⟨wr.heap.size,6,none⟩=some (.int .i64 x.b.n):=HKX.out.cell 6;have k7:X.cell? ⟨wr.heap.size,7,none⟩=some (.slice p.B x.b.l.length p.bc):=HKX.out.cell 7;have hfz:∀q,X.frozen? ⟨wr.heap.size,q,none⟩=false:=fun q=>HKX.out.cold q;have hbk:=hid ((Below.refl X.heap.size X).drew);clear x0 x1 x2 x3 x4 x5 x6 x7 x8 x9 x10 x11 x12 x13 x14;go_cut []from 15 to 22 (fun wx=>MidC x p wr.heap.size X wx)
      case first=>
        go_region_law
          (first
           | (go_simp;go_at_call_of 54 p.T
              refine(CT.out _ hbk.out).mono ?_;rintro e wt ⟨T,c,rfl,hx1,hb1⟩;have hxt:=hid (hx1.imp (P':=fun b=>X.heap.size≤b∧b<wt.heap.size) (fun _ _ _=>rfl) (fun b hb=>⟨Nat.le_trans hbk.out.size hb.1,hb.2⟩))
              (try have hxb:=hid (hxb.out.imp (P':=fun b=>X.heap.size≤b∧b<wt.heap.size) (fun b o hb=>hb1.cell (p:=⟨b,o,none⟩) hb.2) (fun b hb=>⟨hb.1,Nat.lt_of_lt_of_le hb.2 hb1.size⟩)))
              have hbk:=hid (hbk.out.trans (hb1.mono hbk.out.size));clear hx1 hb1 k2 k3 k4 k5 k6 k7 hfz;have k2:wt.cell? ⟨wr.heap.size,2,none⟩=some (.int .i64 x.t.k):=(HKE.out _ hbk.out).cell 2;have k3:wt.cell? ⟨wr.heap.size,3,none⟩=some (.int .i64 x.t.n):=(HKE.out _ hbk.out).cell 3;have k4:wt.cell? ⟨wr.heap.size,4,none⟩=some (.slice p.T x.t.l.length p.tc):=(HKE.out _ hbk.out).cell 4;have k5:wt.cell? ⟨wr.heap.size,5,none⟩=some (.int .i64 x.b.k):=(HKE.out _ hbk.out).cell 5;have k6:wt.cell? ⟨wr.heap.size,6,none⟩=some (.int .i64 x.b.n):=(HKE.out _ hbk.out).cell 6;have k7:wt.cell? ⟨wr.heap.size,7,none⟩=some (.slice p.B x.b.l.length p.bc):=(HKE.out _ hbk.out).cell 7;have hfz:∀q,wt.frozen? ⟨wr.heap.size,q,none⟩=false:=fun q=>(HKE.out _ hbk.out).cold q)
           | (go_simp;go_at_call_of 54 p.B
              refine(CB.out _ hbk.out).mono ?_;rintro e wt ⟨B,d,rfl,hx1,hb1⟩;have hxb:=hid (hx1.imp (P':=fun b=>X.heap.size≤b∧b<wt.heap.size) (fun _ _ _=>rfl) (fun b hb=>⟨Nat.le_trans hbk.out.size hb.1,hb.2⟩))
              (try have hxt:=hid (hxt.out.imp (P':=fun b=>X.heap.size≤b∧b<wt.heap.size) (fun b o hb=>hb1.cell (p:=⟨b,o,none⟩) hb.2) (fun b hb=>⟨hb.1,Nat.lt_of_lt_of_le hb.2 hb1.size⟩)))
              have hbk:=hid (hbk.out.trans (hb1.mono hbk.out.size));clear hx1 hb1 k2 k3 k4 k5 k6 k7 hfz;have k2:wt.cell? ⟨wr.heap.size,2,none⟩=some (.int .i64 x.t.k):=(HKE.out _ hbk.out).cell 2;have k3:wt.cell? ⟨wr.heap.size,3,none⟩=some (.int .i64 x.t.n):=(HKE.out _ hbk.out).cell 3;have k4:wt.cell? ⟨wr.heap.size,4,none⟩=some (.slice p.T x.t.l.length p.tc):=(HKE.out _ hbk.out).cell 4;have k5:wt.cell? ⟨wr.heap.size,5,none⟩=some (.int .i64 x.b.k):=(HKE.out _ hbk.out).cell 5;have k6:wt.cell? ⟨wr.heap.size,6,none⟩=some (.int .i64 x.b.n):=(HKE.out _ hbk.out).cell 6;have k7:wt.cell? ⟨wr.heap.size,7,none⟩=some (.slice p.B x.b.l.length p.bc):=(HKE.out _ hbk.out).cell 7;have hfz:∀q,wt.frozen? ⟨wr.heap.size,q,none⟩=false:=fun q=>(HKE.out _ hbk.out).cold q))
        all_goals
          go_wp2_with fail;go_meet;case rel=>
            have HM1:=mid_tb HXS.out (HKE.out _ hbk.out) hxt.out hxb.out hbk.out;have HM2:=mid_bt HXS.out (HKE.out _ hbk.out) hxt.out hxb.out hbk.out;first|exact HM1|exact HM2
      case rest=>
        obtain⟨T,c,B,d,hb6,hT6,hB6,hbl6,hsz6⟩:=hcut;obtain⟨j0,hj0,hjz0,hjz1,hjz2⟩:=info_int;have HK6:=hid (fun V (hV:Below wc.heap.size wc V)=>(show Bk V wr.heap.size 43 (entC (copyE x) {p with T:=T,tc:=c,B:=B,bc:=d})from hb6.below hV (Nat.lt_of_lt_of_le HXS.out hsz6)));have HSC:=hid (fun V (hV:Below wc.heap.size wc V)=>((HIC.out.kept (HWX.out.trans (hbl6.trans (hV.mono (Nat.le_trans (Nat.le_of_lt HXS.out) hsz6)))) (Nat.le_trans hhi hz)).src));have HSD:=hid (fun V (hV:Below wc.heap.size wc V)=>((HID.out.kept (HWX.out.trans (hbl6.trans (hV.mono (Nat.le_trans (Nat.le_of_lt HXS.out) hsz6)))) (Nat.le_trans hhi hz)).src));have k9:wc.cell? ⟨wr.heap.size,13,none⟩=some (.slice p.C x.c.length p.cc):=hb6.cell 13;have k10:wc.cell? ⟨wr.heap.size,14,none⟩=some (.slice p.D x.d.length p.dc):=hb6.cell 14;have hfz:∀q,wc.frozen? ⟨wr.heap.size,q,none⟩=false:=fun q=>hb6.cold q;have HM6:=hid (show _∧_∧_∧_ from⟨hT6,hB6,hbl6,hsz6⟩);have hbk:=hid ((Below.refl wc.heap.size wc).drew);clear k2 k3 k4 k5 k6 k7 hb6 hT6 hB6 hbl6 hsz6;go_upto_region 6 with fail
        go_cut []from 23 to 30 (fun wx=>EndC x wr.heap.size X wx)
        case first=>
          go_region_law
          (first
           | (refine step_app rfl (.const (.slice none 0 0)) (.tmp 24) 41 rfl wc.heap.size 3 j0 (.int .i64 0) 1 8 Tryz.underlying41 hj0 hjz0 hjz1 hjz2 rfl (by decide) (.slice none 0 0) 0 [] rfl (World.ownsRow_nil _ _ _ _) p.C x.c.length p.cc (x.c.map (Value.int .i64)) rfl (HSC.out _ hbk.out) (ints_one _) (by have:=HCD.out;unfold maxLen;omega) (by have:=HCD.out;omega) hbk.out.size ?_
              rintro v4 w4 ha4;obtain⟨C,cc,rfl,lc,mc,hc,hb4⟩:=ints_to rfl hbk.out.size ha4;have HLc:=hid (show x.c.length≤cc∧cc≤maxLen from⟨lc,mc⟩);have hxc:=hid hc
              (try have hxd:=hid (hxd.out.imp (w':=w4) (P':=fun b=>wc.heap.size≤b∧b<w4.heap.size) (fun b o hb=>ha4.2.1.cell_far ⟨b,o,none⟩ hb.2 (fun e=>by cases e)) (fun b hb=>⟨hb.1,Nat.lt_of_lt_of_le hb.2 ha4.2.1.size⟩)))
              have hbk:=hid (show Below wc.heap.size wc w4 from hbk.out.trans hb4);clear ha4 lc mc hc hb4 k9 k10 hfz;have k9:w4.cell? ⟨wr.heap.size,13,none⟩=some (.slice p.C x.c.length p.cc):=(HK6.out _ hbk.out).cell 13;have k10:w4.cell? ⟨wr.heap.size,14,none⟩=some (.slice p.D x.d.length p.dc):=(HK6.out _ hbk.out).cell 14;have hfz:∀q,w4.frozen? ⟨wr.heap.size,q,none⟩=false:=fun q=>(HK6.out _ hbk.out).cold q)
           | (refine step_app rfl (.const (.slice none 0 0)) (.tmp 27) 41 rfl wc.heap.size 3 j0 (.int .i64 0) 1 8 Tryz.underlying41 hj0 hjz0 hjz1 hjz2 rfl (by decide) (.slice none 0 0) 0 [] rfl (World.ownsRow_nil _ _ _ _) p.D x.d.length p.dc (x.d.map (Value.int .i64)) rfl (HSD.out _ hbk.out) (ints_one _) (by have:=HCD.out;unfold maxLen;omega) (by have:=HCD.out;omega) hbk.out.size ?_
              rintro v4 w4 ha4;obtain⟨D,dc,rfl,ld,md,hd,hb4⟩:=ints_to rfl hbk.out.size ha4;have HLd:=hid (show x.d.length≤dc∧dc≤maxLen from⟨ld,md⟩);have hxd:=hid hd
              (try have hxc:=hid (hxc.out.imp (w':=w4) (P':=fun b=>wc.heap.size≤b∧b<w4.heap.size) (fun b o hb=>ha4.2.1.cell_far ⟨b,o,none⟩ hb.2 (fun e=>by cases e)) (fun b hb=>⟨hb.1,Nat.lt_of_lt_of_le hb.2 ha4.2.1.size⟩)))
              have hbk:=hid (show Below wc.heap.size wc w4 from hbk.out.trans hb4);clear ha4 ld md hd hb4 k9 k10 hfz;have k9:w4.cell? ⟨wr.heap.size,13,none⟩=some (.slice p.C x.c.length p.cc):=(HK6.out _ hbk.out).cell 13;have k10:w4.cell? ⟨wr.heap.size,14,none⟩=some (.slice p.D x.d.length p.dc):=(HK6.out _ hbk.out).cell 14;have hfz:∀q,w4.frozen? ⟨wr.heap.size,q,none⟩=false:=fun q=>(HK6.out _ hbk.out).cold q))
          all_goals
            go_wp2_with fail;go_meet;case rel=>
              have HE:=end_cd HXS.out HSS.out.1 HSS.out.2 (HK6.out _ hbk.out) HM6.out.1 HM6.out.2.1 HM6.out.2.2.1 HM6.out.2.2.2 hbk.out HLc.out.1 HLc.out.2 hxc.out HLd.out.1 HLd.out.2 hxd.out;first|exact HE.1|exact HE.2
        case rest=>
          rename World=>w7
          obtain⟨y,hy⟩:∃y,copyE x=y:=⟨_,rfl⟩;unfold EndC at hcut;rw[hy]at hcut;obtain⟨q,hy1,hy2,hy3,hy4⟩:=hcut;have HY:=hid hy;have m0:w7.cell? ⟨wr.heap.size,0,none⟩=some (.int .i64 y.k):=hy1.cell 0;have m1:w7.cell? ⟨wr.heap.size,1,none⟩=some (.string y.s):=hy1.cell 1;have m2:w7.cell? ⟨wr.heap.size,2,none⟩=some (.int .i64 y.t.k):=hy1.cell 2;have m3:w7.cell? ⟨wr.heap.size,3,none⟩=some (.int .i64 y.t.n):=hy1.cell 3;have m4:w7.cell? ⟨wr.heap.size,4,none⟩=some (.slice q.T y.t.l.length q.tc):=hy1.cell 4;have m5:w7.cell? ⟨wr.heap.size,5,none⟩=some (.int .i64 y.b.k):=hy1.cell 5;have m6:w7.cell? ⟨wr.heap.size,6,none⟩=some (.int .i64 y.b.n):=hy1.cell 6;have m7:w7.cell? ⟨wr.heap.size,7,none⟩=some (.slice q.B y.b.l.length q.bc):=hy1.cell 7;have m8:w7.cell? ⟨wr.heap.size,8,none⟩=some (.int .i64 y.f):=hy1.cell 8;have m9:w7.cell? ⟨wr.heap.size,9,none⟩=some (.int .i64 y.p):=hy1.cell 9;have m10:w7.cell? ⟨wr.heap.size,10,none⟩=some (.int .i64 y.a):=hy1.cell 10;have m11:w7.cell? ⟨wr.heap.size,11,none⟩=some (.int .i64 y.i):=hy1.cell 11;have m12:w7.cell? ⟨wr.heap.size,12,none⟩=some (.int .i64 y.v):=hy1.cell 12;have m13:w7.cell? ⟨wr.heap.size,13,none⟩=some (.slice q.C y.c.length q.cc):=hy1.cell 13;have m14:w7.cell? ⟨wr.heap.size,14,none⟩=some (.slice q.D y.d.length q.dc):=hy1.cell 14;have hgl:=hy1.lt;have HY2:=hid hy2;have HY4:=hid hy4;have HW7:=hid (show Below wr.heap.size wr w7 from HWX.out.trans hy3);have HR7:=hid (fun o=>(HROW.out.below HW7.out).alloc o);have hrow7:=HROW.out.row;have HLTR:=hid (fun g (e:(Value.slice a1 ps.length cc1).ownBlock=some g)=>HROW.out.row.lt g e);have HZ7:=hid (show wr.heap.size<w7.heap.size from hgl);have HZ:=hid hz;clear hy hy1 hy2 hy3 hy4 k9 k10 hfz hrow7;have hpl:ps.length≤600:=by have:=HPS.out;omega
          have HPL:=hid hpl;clear hpl;go_wp2_with (at_builtin;refine wpList_app rfl _ _ 22 rfl w.heap.size 43 i0 zeroE 15 192 Tryz.underlying22 hi0 hz0 hz1 hz2 zeroE_size (by decide) (.slice a1 ps.length cc1) ps.length (flatE ps) rfl (HR7.out _).row (some ⟨w7.heap.size,0,none⟩) 1 1 (cellsE (y,q)) rfl (src_at _ _ _ rfl rfl) (cellsE_one _) (by have:=HPL.out;unfold maxLen;omega) (by have:=HPL.out;omega) (by have:=HZ.out;have:=HZ7.out;simp;omega) ?_)
          rintro v8 w8 ⟨hown8,hg8,ho8⟩;have HR8:=hid (show EntRow w8 w.heap.size v8 (ps++[(y,q)]) (fun b=>P b∨(X.heap.size≤b∧b<w7.heap.size))from(HR7.out _).push (p:=(y,q)) (HY2.out.imp (fun b o hb=>((Below.refl w7.heap.size w7).alloc (Nat.le_refl _) _).cell (p:=⟨b,o,none⟩) hb.2) (fun _ hb=>hb))
            (fun b hb=>⟨by simp;omega,fun e=>by have h1:=(HLTR.out b e).2;have h2:=HXS.out;omega⟩) hown8 hg8 ho8)
          have HB8:=hid ((((HBB.out.trans (HW7.out.mono HZ.out)).alloc (by have:=HZ.out;have:=HZ7.out;omega) _)).grown hg8 (by have:=HZ.out;have:=HZ7.out;simp;omega) (fun g e=>(HLTR.out g e).1));obtain⟨a8,c8,rfl⟩:=own_sliceM hown8;have hpn:ps.length+1=i+1:=by have:=HPS.out;omega
          clear hown8 hg8 ho8 m0 m1 m2 m3 m4 m5 m6 m7 m8 m9 m10 m11 m12 m13 m14;go_wp2_with fail;go_roundw
          case rel=>
            refine⟨i+1,ps++[(y,q)],_,by rw[HNN.out];omega,rfl,HB8.out,HR8.out,by simp[HPS.out], ?_,fun b hb=>hb.elim (HPB.out b) (fun h=>by have h1:=HWX.out.size;have h2:=HBB.out.size;omega)⟩;rw[List.map_append,HPM.out,List.take_succ_eq_append_getElem hil,List.map_append,HXX.out];simp[HY.out]
          case measure=>simp[intOf];omega
    · obtain rfl:i=n:=by omega
      have HR:=hid hrow;have HPM:=hid hpm;have HPS:=hid hps;obtain⟨a1,cc1,rfl⟩:=own_sliceM hrow.row;have HBB:=hid hB;clear hrow hpm hps;go_wp2_with fail;go_ret;have h1:=HR.out;have h2:=h1.entsP HPB.out;have h3:=HPM.out;rw[List.take_of_length_le (by rw[HNN.out];exact Nat.le_refl _)]at h3;rw[h3]at h2;exact⟨a1,cc1,by rw[List.length_map,HNN.out,HPS.out];rfl,h2.1,by rw[List.length_map,HNN.out,←HPS.out];exact h2.2.1,HBB.out⟩
end Go.Proofs.YtchllgkgjompgaaGreatDoor
