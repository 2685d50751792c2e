import Derived.Test.YtchllgkgjompgaaGreatDoorR4
import Derived.Test.YtchllgkgjompgaaGreatDoorC3
import Derived.Test.YtchllgkgjompgaaGreatDoorMe
import Derived.Deep.RegionHeld3
import Derived.Test.YtchllgkgjompgaaGreatDoorS7
import Derived.Test.YtchllgkgjompgaaGreatDoorU2
namespace Go.Proofs.YtchllgkgjompgaaGreatDoor
open Go.RowKit
set_option linter.unusedVariables false
set_option maxRecDepth 100000
def NilM (w:World) (g:Nat):Prop:=∃E ce R,Bk w g 95 #[.slice E 0 ce,.pointer R]
theorem NilM.below {w w':World} {g B:Nat} (h:NilM w g) (hb:Below B w w') (hg:g<B):NilM w' g:=by
 obtain⟨E,ce,R,hk⟩:=h;exact⟨E,ce,R,hk.below hb hg⟩
theorem NilM.lt {w:World} {g:Nat} (h:NilM w g):g<w.heap.size:=by
 obtain⟨E,ce,R,hk⟩:=h;exact hk.lt
theorem NilM.over {w w':World} {g:Nat} (h:NilM w g) (hb:Below w.heap.size w w'):NilM w' g:=h.below hb h.lt
def NoEnt (w:World) (P:Option Addr):Prop:=P=none∨∃g,P=some ⟨g,0,none⟩∧NilM w g
theorem NoEnt.over {w w':World} {P:Option Addr} (h:NoEnt w P) (hb:Below w.heap.size w w'):NoEnt w' P:=by
 rcases h with h|⟨g,h1,h2⟩
 ·exact .inl h
 ·exact .inr ⟨g,h1,h2.over hb⟩
theorem TermIn.setAt {w:World} {P:Nat→Prop} {g q:Nat} {t:TM} {A:Option Addr} {cap:Nat} (h:TermIn w P t A cap) (hg:∀b,P b→b≠g) (u:Value):TermIn (w.setCell ⟨g,q,none⟩ u) P t A cap:=
 h.imp (fun b o hb=>World.cell?_setCell_other w ⟨g,q,none⟩ ⟨b,o,none⟩ u (fun e=>hg b hb (by injection e with e;exact e.symm))) (fun _ hb=>hb)
theorem TermIn.five {w:World} {lo hi g:Nat} {t:TM} {A:Option Addr} {cap:Nat} (h:TermIn w (fun b=>(lo≤b∧b<hi)∧b≠g) t A cap) (hh:hi≤w.heap.size) (u0 u1 u2 u3 u4:Value):
  IsTerm (((((w.setCell ⟨g,0,none⟩ u0).setCell ⟨g,1,none⟩ u1).setCell ⟨g,2,none⟩ u2).setCell ⟨g,3,none⟩ u3).setCell ⟨g,4,none⟩ u4).drew 0 (((((w.setCell ⟨g,0,none⟩ u0).setCell ⟨g,1,none⟩ u1).setCell ⟨g,2,none⟩ u2).setCell ⟨g,3,none⟩ u3).setCell ⟨g,4,none⟩ u4).drew.heap.size t A cap:=by
 have h5:=((((h.setAt (q:=0) (fun _ hb=>hb.2) u0).setAt (q:=1) (fun _ hb=>hb.2) u1).setAt (q:=2) (fun _ hb=>hb.2) u2).setAt (q:=3) (fun _ hb=>hb.2) u3).setAt (q:=4) (fun _ hb=>hb.2) u4;have hsz:(((((w.setCell ⟨g,0,none⟩ u0).setCell ⟨g,1,none⟩ u1).setCell ⟨g,2,none⟩ u2).setCell ⟨g,3,none⟩ u3).setCell ⟨g,4,none⟩ u4).heap.size=w.heap.size:=by simp[World.setCell]
 obtain⟨W,hW⟩:∃W,(((((w.setCell ⟨g,0,none⟩ u0).setCell ⟨g,1,none⟩ u1).setCell ⟨g,2,none⟩ u2).setCell ⟨g,3,none⟩ u3).setCell ⟨g,4,none⟩ u4)=W:=⟨_,rfl⟩;rw[hW]at h5 hsz⊢;have h6:IsTerm W 0 W.heap.size t A cap:=TermIn.imp (fun _ _ _=>rfl) (fun b hb=>⟨Nat.zero_le _,by have:=hb.1.2;omega⟩) h5;exact h6.kept (Below.refl W.heap.size W).drew (Nat.le_refl _)
def NoRedex (w:World) (e:Ending) (w':World):Prop:=e= .returned (.tuple #[.agg #[.int .i64 0,.int .i64 0,.slice none 0 0,.slice none 0 0,.slice none 0 0],.bool false])∧Below w.heap.size w w'
def GivesSt (u:TM) (b:Bool) (c:Int) (w:World) (e:Ending) (w':World):Prop:=∃A cap,e= .returned (.tuple #[termV u A cap,.bool b,.int .i64 c])∧IsTerm w' w.heap.size w'.heap.size u A cap∧Below w.heap.size w w'
theorem Up.st {b:Nat} {w V:World} (h:Up b w V) {g q:Nat} (hg:w.heap.size≤g) (u:Value):Up b w (V.setCell ⟨g,q,none⟩ u):=
 ⟨h.os,h.tape,h.output,by have:=h.size;simpa [World.setCell]using this,fun k hk hr=>(Below.heap_setCell V ⟨g,q,none⟩ u k (fun e=>by have:k=g:=e;omega)).trans (h.block k hk hr)⟩
theorem Up.al {b:Nat} {w V:World} (h:Up b w V) (o:Obj):Up b w (V.alloc o):=h.trans (Up.of ((Below.refl _ _).alloc (Nat.le_refl _) _))
end Go.Proofs.YtchllgkgjompgaaGreatDoor
