import Derived.Test.YtchllgkgjompgaaGreatDoorRows
import Derived.WalkKit
import Derived.ProofKit
import Derived.WalkLawsBesides
import Derived.Lib.Hide
import Derived.Laws.LoneSync
import Derived.Laws.NewBlocks
import Derived.Deep.RegionWith
import Derived.Deep.RegionHeld3
import Derived.Deep.RegionLaw
import Derived.BigQuiet
import Derived.Deep.QuietTactic
import Derived.LoopTactic
import Derived.LoopN
import Derived.Deep.Cut
import Derived.Deep.CutRange
namespace Go.Proofs.YtchllgkgjompgaaGreatDoor
open Go.RowKit
set_option linter.unusedVariables false
set_option maxRecDepth 100000
open Lib(hid)
open Go.Proofs.Tryz
def Mt (w:World) (b:Nat) (f l:Int):Prop:=w.heap[b]? =some (.cells #[.int .i64 f,.int .i64 l] 81 (0,0))
theorem Mt.lt {w:World} {b:Nat} {f l:Int} (h:Mt w b f l):b<w.heap.size:=by
 unfold Mt at h;rcases Nat.lt_or_ge b w.heap.size with hlt|hge
 ·exact hlt
 ·rw[Array.getElem?_eq_none hge]at h;cases h
theorem Mt.c0 {w:World} {b:Nat} {f l:Int} (h:Mt w b f l):w.cell? ⟨b,0,none⟩=some (.int .i64 f):=cell_of_row w b 0 _ _ (0,0) h
theorem Mt.c1 {w:World} {b:Nat} {f l:Int} (h:Mt w b f l):w.cell? ⟨b,1,none⟩=some (.int .i64 l):=cell_of_row w b 1 _ _ (0,0) h
theorem Mt.fz {w:World} {b:Nat} {f l:Int} (h:Mt w b f l) (o:Nat):w.frozen? ⟨b,o,none⟩=false:=by
 unfold Mt at h;unfold World.frozen?;simp[h]
theorem Mt.below {w w':World} {b B:Nat} {f l:Int} (h:Mt w b f l) (hb:Below B w w') (hg:b<B):Mt w' b f l:=(hb.block b hg).trans h
theorem Mt.over {w w':World} {b:Nat} {f l:Int} (h:Mt w b f l) (hb:Below w.heap.size w w'):Mt w' b f l:=h.below hb h.lt
theorem Mt.alloc {w:World} {b:Nat} {f l:Int} (h:Mt w b f l) (o:Obj):Mt (w.alloc o) b f l:=(Below.heap_alloc w o b h.lt).trans h
theorem Mt.far {w:World} {b:Nat} {f l:Int} (h:Mt w b f l) {a:Addr} (ha:b≠a.block) (u:Value):Mt (w.setCell a u) b f l:=(Below.heap_setCell w a u b ha).trans h
theorem Mt.set {w:World} {b:Nat} {f l:Int} (h:Mt w b f l) (m:Int):Mt (w.setCell ⟨b,1,none⟩ (.int .i64 m)) b f m:=by
 unfold Mt at h⊢;show(w.setCell ⟨b,1,none⟩ (.int .i64 m)).heap[b]? =_
 unfold World.setCell;simp only[Array.getElem?_modify,if_pos,h,Option.map_some];rfl
theorem load_any {w:World} {b:Nat} {f l:Int} (h:Mt w b f l):Calls prog 62 #[.pointer (some ⟨b,1,none⟩)] w fun e w'=>e= .returned (.int .i64 l)∧w'=w:=by
 have hld:=run_call_load (P:=prog) func92 (by kernel_rfl) (by kernel_rfl) (by kernel_rfl) .i64 (by kernel_rfl) h.c1;have c1:=h.c1;clear h;go_enter func62,ntmps62;go_wp2
 go_ret;exact⟨rfl,rfl⟩
theorem store_any {w:World} {b:Nat} {f l:Int} (h:Mt w b f l) (m:Int):Calls prog 46 #[.pointer (some ⟨b,1,none⟩),.int .i64 m] w fun e w'=>e= .returned (.tuple #[])∧w'=w.setCell ⟨b,1,none⟩ (.int .i64 m):=by
 have hld:=run_call_store (P:=prog) (k:= .i64) (y:=m) func70 (by kernel_rfl) (by kernel_rfl) (by kernel_rfl) (by kernel_rfl) h.c1 (h.fz 1);have c1:=h.c1;clear h;go_enter func46,ntmps46;go_wp2
 go_end0
 exact⟨rfl,rfl⟩
theorem cas_any {w:World} {b:Nat} {f l:Int} (h:Mt w b f l) (m:Int):Calls prog 149 #[.pointer (some ⟨b,1,none⟩),.int .i64 l,.int .i64 m] w fun e w'=>e= .returned (.bool true)∧w'=w.setCell ⟨b,1,none⟩ (.int .i64 m):=by
 have hld:=run_call_cas_hit (P:=prog) func178 (by kernel_rfl) (by kernel_rfl) (by kernel_rfl) .i64 (by kernel_rfl) (y:=m) h.c1 (h.fz 1);have c1:=h.c1;clear h;go_enter func149,ntmps149;go_wp2
 go_ret;exact⟨rfl,rfl⟩
theorem left_any {w:World} {b:Nat} {f l:Int} (h:Mt w b f l) (hl:0≤l∧l≤1048576):Calls prog 83 #[.pointer (some ⟨b,0,none⟩)] w fun e w'=>e= .returned (.int .i64 l)∧w'=w:=by
 have hw:IntKind.i64.wrap l=l:=IntWalk.i64_in _ (by omega);have c0:=h.c0;have c1:=h.c1;have H:=hid h;clear h hl;go_enter func83,ntmps83;go_wp2_with fail;refine(load_any H.out).mono ?_;rintro e w1 ⟨rfl,rfl⟩;go_wp2_with fail;go_ret;exact⟨rfl,rfl⟩
theorem used_any {w:World} {b:Nat} {f l:Int} (h:Mt w b f l) (hl:0≤l∧l≤f∧f≤1048576):Calls prog 34 #[.pointer (some ⟨b,0,none⟩)] w fun e w'=>e= .returned (.int .i64 (f - l))∧Below w.heap.size w w':=by
  have hw:IntKind.i64.wrap (f - l)=f - l:=IntWalk.i64_in _ (by omega);have hw':wrap64 (f - l)=f - l:=IntWalk.wrap64_in _ (by omega);have c0:=h.c0;have c1:=h.c1;have hlt:=h.lt;have HK:Hid (∀V,Below w.heap.size w V→V.cell? ⟨b,0,none⟩=some (.int .i64 f)∧V.cell? ⟨b,1,none⟩=some (.int .i64 l)):=hid (fun V hV=>⟨(h.over hV).c0,(h.over hV).c1⟩);have HM:Hid (∀V,Below w.heap.size w V→Mt V b f l):=hid (fun V hV=>h.over hV);have hbk:=hid ((Below.refl w.heap.size w).drew);clear h hl;go_enter func34,ntmps34;go_wp2_with fail;go_region_held3 (fun w'=>Below w.heap.size w w'∧w'.cell? ⟨b,0,none⟩=some (.int .i64 f))
    (first|exact⟨hbk.out,(HK.out _ hbk.out).1⟩)
    (first
      | (go_at_call 62;(with_reducible refine(load_any (HM.out _ hbk.out)).mono ?_);rintro e w3 ⟨rfl,rfl⟩))
  all_goals
    go_wp2_with fail;go_ret;exact⟨rfl,hbk.out⟩
theorem spend_neg {w:World} {b:Nat} (n:Int) (hn:n<0):Calls prog 120 #[.pointer (some ⟨b,0,none⟩),.int .i64 n] w fun e w'=>e= .returned (.int .i64 8)∧w'=w:=by
 go_enter func120,ntmps120;go_wp2
 go_ret;exact⟨rfl,rfl⟩
def enough (l n:Int):Bool:=decide (0≤n) && decide (n≤l)
def leftX (l n:Int):Int:=if enough l n then l - n else l
def fuelE (l n:Int):Int:=if enough l n then 0 else 8
theorem enough_yes {l n:Int} (h0:0≤n) (h1:n≤l):enough l n=true:=by simp[enough,h0,h1]
theorem enough_neg {l n:Int} (h0:n<0):enough l n=false:=by simp[enough];omega
theorem enough_few {l n:Int} (h0:l<n):enough l n=false:=by simp[enough];omega
theorem spend_any {w:World} {b:Nat} {f l:Int} (h:Mt w b f l) (n:Int) (hn:(Lit.int .i64 n).wf=true) (hl:0≤l∧l≤1048576):Calls prog 120 #[.pointer (some ⟨b,0,none⟩),.int .i64 n] w fun e w'=>
  e= .returned (.int .i64 (fuelE l n))∧(w'=w∧enough l n=false∨w'=w.setCell ⟨b,1,none⟩ (.int .i64 (leftX l n))∧enough l n=true):=by
 have hn2:n≤9223372036854775807:=by
  have h:=hn;simp only[Lit.wf,Bool.and_eq_true,decide_eq_true_eq]at h;exact h.2
 by_cases h0:n<0
 ·refine(spend_neg n h0).mono ?_;rintro e w' ⟨rfl,rfl⟩;simp[fuelE,enough_neg h0]
 ·have c0:=h.c0;have c1:=h.c1;have H:=hid h;by_cases h1:l<n
  ·have HE:Hid (enough l n=false):=hid (enough_few h1);have hwn:IntKind.i64.wrap n=n:=IntWalk.i64_in _ (by omega);clear h hl hn hn2;go_enter func120,ntmps120;go_wp2_with fail;refine wp_loop_rounds 2 ?_;rw[rounds_succ];go_wp2_with fail;refine(load_any H.out).mono ?_;rintro e w1 ⟨rfl,rfl⟩;go_wp2_with fail;go_ret;simp[fuelE,HE.out]
  ·have HE:Hid (enough l n=true):=hid (enough_yes (by omega) (by omega));have hwn:IntKind.i64.wrap n=n:=IntWalk.i64_in _ (by omega);have hw2:IntKind.i64.wrap (l - n)=l - n:=IntWalk.i64_in _ (by omega);have hw3:wrap64 (l - n)=l - n:=IntWalk.wrap64_in _ (by omega);clear h hl hn hn2;go_enter func120,ntmps120;go_wp2_with fail;refine wp_loop_rounds 2 ?_;rw[rounds_succ];go_wp2_with fail;refine(load_any H.out).mono ?_;rintro e w1 ⟨rfl,rfl⟩;go_wp2_with fail;refine(cas_any H.out _).mono ?_;rintro e w1 ⟨rfl,rfl⟩;go_wp2_with fail;go_ret;simp[fuelE,leftX,HE.out]
def Up (b:Nat) (w w':World):Prop:=w.grownBy w' (some b)
theorem Up.refl (b:Nat) (w:World):Up b w w:=⟨rfl,rfl,rfl,Nat.le_refl _,fun _ _ _=>rfl⟩
theorem Up.set {b:Nat} {w:World} (o:Nat) (v:Value):Up b w (w.setCell ⟨b,o,none⟩ v):=
 ⟨rfl,rfl,rfl,by simp[World.setCell],fun k hk hr=>Below.heap_setCell w ⟨b,o,none⟩ v k (fun e=>hr (by rw[e]))⟩
theorem Up.of {b:Nat} {w w':World} (h:Below w.heap.size w w'):Up b w w':=⟨h.os,h.tape,h.output,h.size,fun k hk _=>h.block k hk⟩
theorem Up.trans {b:Nat} {w w' w'':World} (h:Up b w w') (k:Up b w' w''):Up b w w'':=⟨k.os.trans h.os,k.tape.trans h.tape,k.output.trans h.output,Nat.le_trans h.size k.size,fun n hn hr=>(k.block n (Nat.lt_of_lt_of_le hn h.size) hr).trans (h.block n hn hr)⟩
theorem Up.size {b:Nat} {w w':World} (h:Up b w w'):w.heap.size≤w'.heap.size:=World.grownBy.size h
theorem Up.below {b B:Nat} {w w':World} (h:Up b w w') (hB:B≤b) (hw:B≤w.heap.size):Below B w w':=
 ⟨h.os,h.tape,h.output,h.size,fun k hk=>h.block k (by omega) (fun e=>by injection e with e;omega)⟩
theorem Up.cell {b:Nat} {w w':World} (h:Up b w w') {k:Nat} (o:Nat) (hk:k<w.heap.size) (hr:k≠b):w'.cell? ⟨k,o,none⟩=w.cell? ⟨k,o,none⟩:=
 World.cell?_of_block (a:=⟨k,o,none⟩) (h.block k hk (fun e=>hr (by injection e)))
theorem spend_up {w:World} {b:Nat} {f l:Int} (h:Mt w b f l) (n:Int) (hn:(Lit.int .i64 n).wf=true) (hl:0≤l∧l≤1048576):Calls prog 120 #[.pointer (some ⟨b,0,none⟩),.int .i64 n] w fun e w'=>
  e= .returned (.int .i64 (fuelE l n))∧Mt w' b f (leftX l n)∧Up b w w':=by
 refine(spend_any h n hn hl).mono ?_;rintro e w' ⟨rfl,⟨rfl,hE⟩|⟨rfl,hE⟩⟩
 ·refine⟨rfl, ?_,Up.refl _ _⟩;simp only[leftX,hE];exact h
 ·exact⟨rfl,h.set _,Up.set _ _⟩
theorem step_up {w:World} {b:Nat} {f l:Int} (h:Mt w b f l) (hl:0≤l∧l≤1048576):Calls prog 85 #[.pointer (some ⟨b,0,none⟩)] w fun e w'=>
  e= .returned (.int .i64 (fuelE l 1))∧Mt w' b f (leftX l 1)∧Up b w w':=by
 have H:=hid (spend_up h 1 (by decide) hl);clear h hl;go_enter func85,ntmps85;go_wp2_with fail;refine H.out.mono ?_;rintro e w1 ⟨rfl,hm,hu⟩;have hm:=hid hm;go_wp2_with fail;go_ret;exact⟨rfl,hm.out,hu⟩
theorem new_ok (n:Int) (h0: ¬ n<0) (h1: ¬ 1048576<n) (w:World):Calls prog 23 #[.int .i64 n] w fun e w'=>e= .returned (.tuple #[.pointer (some ⟨w.heap.size,0,none⟩),.int .i64 0])∧Mt w' w.heap.size n n∧Below w.heap.size w w':=by
  have hw:IntKind.i64.wrap n=n:=IntWalk.i64_in _ (by omega);obtain⟨W,hW⟩:∃W,w.alloc (.cells #[.int .i64 n,.int .i64 0] 81)=W:=⟨_,rfl⟩;have hM:Mt W w.heap.size n 0:=by rw[←hW];exact heap_alloc_new w _
  have hB:Below w.heap.size w W:=by rw[←hW];exact(Below.refl _ _).alloc (Nat.le_refl _) _
  have c0:=hM.c0;have c1:=hM.c1;have hlt:=hM.lt;have HK:Hid (∀V,Below W.heap.size W V→Mt V w.heap.size n 0):=hid (fun V hV=>hM.over hV);have HC:Hid (∀V,Below W.heap.size W V→V.cell? ⟨w.heap.size,0,none⟩=some (.int .i64 n)):=hid (fun V hV=>(hM.over hV).c0);have HB:=hid hB;have HW:=hid hW;clear hM hB hW;have hbk:=hid ((Below.refl W.heap.size W).drew);go_enter func23,ntmps23;go_upto_region 4 with fail
  rw[HW.out];go_region_law
    (first
      | (go_simp;go_at_call 46;refine(store_any (HK.out _ hbk.out) _).mono ?_;rintro e w3 ⟨rfl,rfl⟩))
  all_goals
    go_wp2_with fail;go_ret2;exact⟨rfl,(HK.out _ hbk.out).set n,(HB.out.trans (hbk.out.mono HB.out.size)).setCell (Nat.le_refl _) _⟩
end Go.Proofs.YtchllgkgjompgaaGreatDoor
