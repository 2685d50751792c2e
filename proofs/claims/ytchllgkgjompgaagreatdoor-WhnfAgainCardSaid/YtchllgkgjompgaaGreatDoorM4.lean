import Derived.Test.YtchllgkgjompgaaGreatDoorM1
import Derived.Test.YtchllgkgjompgaaGreatDoorM3
import Derived.Lib.SlicesCompact
import Derived.Lib.RowBridge
import Derived.Test.YtchllgkgjompgaaGreatDoorTLib
import Derived.Shelf.Slices.In.SortAlone
import Derived.Shelf.Slices.In.SortNone
import Derived.Shelf.Slices.CompactI
import Derived.Sort.OwnSortedInts
import Derived.Lib.OwnBridge
import Derived.Deep.RegionHeld3
import Derived.Deep.QuietTactic
import Derived.BigQuiet
namespace Go.Proofs.YtchllgkgjompgaaGreatDoor
set_option maxHeartbeats 2000000
set_option maxRecDepth 100000
open Go.RowKit Go.Shelf Go.Sort
set_option linter.unusedVariables false
open Lib(hid)
open Go.Proofs.Tryz
theorem lrM4{n:Nat}:n≤n:=Nat.le_refl n
theorem infoM:(prog.info? 25).map (fun i=>(i.zero,i.size,i.bytes))=some (some (.agg #[.int .i64 0,.int .i64 0,.slice none 0 0]),3,40):=by kernel_rfl
theorem own_sliceM {w:World} {base:Nat} {e:TypeId} {size:Nat} {v:Value} {n:Nat} {xs:List Value} (h:w.ownsRow base e size v n xs):∃a cap,v= .slice a n cap:=by
 rcases h.2 with ⟨rfl,rfl⟩|⟨g,cap,cur,rfl,_⟩
 ·exact⟨_,_,rfl⟩
 ·exact⟨_,_,rfl⟩
theorem row_snocM {α:Type} {l:List α} (h:0<l.length):∃q x,l=q++[x]∧l.length=q.length+1:=by
 obtain⟨q,x,rfl⟩:∃q x,l=q++[x]:=by
  rcases List.eq_nil_or_concat l with rfl|⟨q,x,rfl⟩
  ·simp at h
  ·exact⟨q,x,by simp⟩
 exact⟨q,x,rfl,by simp⟩
theorem leaf_in (w:World) (P:Nat→Prop) (k n:Int):TermIn w P (.node k n []) none 0:=
 TermIn.mk k n [] none 0 (fun _=>none) (fun _=>0) (by simp) (by decide) (fun h=>by simp at h) (fun i h=>by simp at h)
theorem one_in {w:World} {P:Nat→Prop} {t:TM} {A:Option Addr} {cap g:Nat} {e:TypeId} (ht:TermIn w P t A cap) (hb:Bk w g e #[.int .i64 t.k,.int .i64 t.n,.slice A t.l.length cap]) (hg:P g) (k n:Int):TermIn w P (.node k n [t]) (some ⟨g,0,none⟩) 1:=by
 refine TermIn.mk k n [t] _ 1 (fun _=>A) (fun _=>cap) (by simp) (by decide) (fun _=>⟨g,0,rfl,hg,fun i h=> ?_⟩) (fun i h=> ?_)
 ·obtain rfl:i=0:=by simp at h;omega
  exact⟨hb.cell 0,hb.cell 1,hb.cell 2⟩
 ·obtain rfl:i=0:=by simp at h;omega
  exact ht
theorem two_in {w:World} {P:Nat→Prop} {t u:TM} {A A':Option Addr} {cap cap' g:Nat} {e:TypeId} (ht:TermIn w P t A cap) (hu:TermIn w P u A' cap')
    (hb:Bk w g e #[.int .i64 t.k,.int .i64 t.n,.slice A t.l.length cap,.int .i64 u.k,.int .i64 u.n,.slice A' u.l.length cap']) (hg:P g) (k n:Int):TermIn w P (.node k n [t,u]) (some ⟨g,0,none⟩) 2:=by
  refine TermIn.mk k n [t,u] _ 2 (fun i=>if i=0 then A else A') (fun i=>if i=0 then cap else cap') (by simp) (by decide) (fun _=>⟨g,0,rfl,hg,fun i h=> ?_⟩) (fun i h=> ?_)
  · have h2:i=0∨i=1:=by simp at h;omega
    rcases h2 with rfl|rfl
    · exact⟨hb.cell 0,hb.cell 1,hb.cell 2⟩
    · exact⟨hb.cell 3,hb.cell 4,hb.cell 5⟩
  · have h2:i=0∨i=1:=by simp at h;omega
    rcases h2 with rfl|rfl
    · exact ht
    · exact hu
def TwoIs (k:Int) (cs:Array Value) (w:World) (e:Ending) (w':World):Prop:=∃g,e= .returned (.agg #[.int .i64 k,.int .i64 0,.slice (some ⟨g,0,none⟩) 2 2])∧w.heap.size≤g∧Bk w' g 25 cs∧Below w.heap.size w w'
theorem Bk.last (w:World) (e:TypeId) (cs:Array Value) {g:Nat} (h:w.heap.size=g):Bk (w.alloc (.cells cs e)) g e cs:=by subst h;exact Bk.new w e cs
theorem mk_var (n:Int) (w:World):Calls prog 182 #[.int .i64 n] w fun e w'=>e= .returned (.agg #[.int .i64 1,.int .i64 n,.slice none 0 0])∧w'=w.alloc (.cells #[.int .i64 1,.int .i64 n,.slice none 0 0] 25):=by
 go_enter func182,ntmps182;go_wp2_with fail;exact bodyPost_ret (v:= .agg #[.int .i64 1,.int .i64 n,.slice none 0 0]) (by simp[results,results182,go_sem]) rfl ⟨rfl,rfl⟩
theorem mk_sort (n:Int) (w:World):Calls prog 176 #[.int .i64 n] w fun e w'=>e= .returned (.agg #[.int .i64 2,.int .i64 n,.slice none 0 0])∧w'=w.alloc (.cells #[.int .i64 2,.int .i64 n,.slice none 0 0] 25):=by
 go_enter func176,ntmps176;go_wp2_with fail;exact bodyPost_ret (v:= .agg #[.int .i64 2,.int .i64 n,.slice none 0 0]) (by simp[results,results176,go_sem]) rfl ⟨rfl,rfl⟩
theorem mk_const (n:Int) (w:World):Calls prog 161 #[.int .i64 n] w fun e w'=>e= .returned (.agg #[.int .i64 6,.int .i64 n,.slice none 0 0])∧w'=w.alloc (.cells #[.int .i64 6,.int .i64 n,.slice none 0 0] 25):=by
 go_enter func161,ntmps161;go_wp2_with fail;exact bodyPost_ret (v:= .agg #[.int .i64 6,.int .i64 n,.slice none 0 0]) (by simp[results,results161,go_sem]) rfl ⟨rfl,rfl⟩
theorem mk_elim (n m:Int) (w:World):Calls prog 146 #[.int .i64 n,.int .i64 m] w fun e w'=>∃g,e= .returned (.agg #[.int .i64 7,.int .i64 n,.slice (some ⟨g,0,none⟩) 1 1])∧w.heap.size≤g∧Bk w' g 25 #[.int .i64 2,.int .i64 m,.slice none 0 0]∧Below w.heap.size w w':=by
 have HC:=hid (fun W=>mk_sort m W);go_enter func146,ntmps146;go_wp2_with fail;refine(HC.out _).mono ?_;rintro e w1 ⟨rfl,rfl⟩;go_wp2_with fail;refine bodyPost_ret (v:= .agg #[.int .i64 7,.int .i64 n,.slice (some ⟨w.heap.size+1+1,0,none⟩) 1 1]) (by simp[results,results146,go_sem]) rfl ⟨_,rfl,by omega,Bk.last _ _ _ (by simp), ?_⟩;exact(((Below.refl _ _).alloc lrM4 _).alloc (by simp) _).alloc (by simp;omega) _
theorem mk_lam (k k' n n':Int) (A A':Option Addr) (m m' cap cap':Nat) (w:World):Calls prog 125 #[.agg #[.int .i64 k,.int .i64 n,.slice A m cap],.agg #[.int .i64 k',.int .i64 n',.slice A' m' cap']] w (TwoIs 4 #[.int .i64 k,.int .i64 n,.slice A m cap,.int .i64 k',.int .i64 n',.slice A' m' cap'] w):=by
 go_enter func125,ntmps125;go_wp2_with fail;refine bodyPost_ret (v:= .agg #[.int .i64 4,.int .i64 0,.slice (some ⟨w.heap.size+1+1+1,0,none⟩) 2 2]) (by simp[results,results125,go_sem]) rfl ⟨_,rfl,by omega,Bk.last _ _ _ (by simp), ?_⟩;exact((((Below.refl _ _).alloc lrM4 _).alloc (by simp) _).alloc (by simp;omega) _).alloc (by simp;omega) _
theorem mk_app (k k' n n':Int) (A A':Option Addr) (m m' cap cap':Nat) (w:World):Calls prog 121 #[.agg #[.int .i64 k,.int .i64 n,.slice A m cap],.agg #[.int .i64 k',.int .i64 n',.slice A' m' cap']] w (TwoIs 5 #[.int .i64 k,.int .i64 n,.slice A m cap,.int .i64 k',.int .i64 n',.slice A' m' cap'] w):=by
 go_enter func121,ntmps121;go_wp2_with fail;refine bodyPost_ret (v:= .agg #[.int .i64 5,.int .i64 0,.slice (some ⟨w.heap.size+1+1+1,0,none⟩) 2 2]) (by simp[results,results121,go_sem]) rfl ⟨_,rfl,by omega,Bk.last _ _ _ (by simp), ?_⟩;exact((((Below.refl _ _).alloc lrM4 _).alloc (by simp) _).alloc (by simp;omega) _).alloc (by simp;omega) _
theorem mk_two (kk:Int) (k k' n n':Int) (A A':Option Addr) (m m' cap cap':Nat) (w:World):Calls prog 17 #[.int .i64 kk,.agg #[.int .i64 k,.int .i64 n,.slice A m cap],.agg #[.int .i64 k',.int .i64 n',.slice A' m' cap']] w (TwoIs kk #[.int .i64 k,.int .i64 n,.slice A m cap,.int .i64 k',.int .i64 n',.slice A' m' cap'] w):=by
 go_enter func17,ntmps17;go_wp2_with fail;refine bodyPost_ret (v:= .agg #[.int .i64 kk,.int .i64 0,.slice (some ⟨w.heap.size+1+1+1,0,none⟩) 2 2]) (by simp[results,results17,go_sem]) rfl ⟨_,rfl,by omega,Bk.last _ _ _ (by simp), ?_⟩;exact((((Below.refl _ _).alloc lrM4 _).alloc (by simp) _).alloc (by simp;omega) _).alloc (by simp;omega) _
def setL (l:List Int):List Int:=Lib.compact (l.mergeSort fun x y=>decide (x≤y))
theorem setL_nil:setL []=[]:=by unfold setL;rw[List.mergeSort_nil];rfl
theorem setL_length_le (l:List Int):(setL l).length≤l.length:=by
 have:=Lib.compact_length_le (l.mergeSort fun x y=>decide (x≤y));rw[List.length_mergeSort]at this;exact this
def IntsAt (w:World) (b o:Nat) (ks:List Int):Prop:=∀i (h:i<ks.length),w.cell? ⟨b,o+i,none⟩=some (.int .i64 ks[i])
theorem IntsAt.kept {w w':World} {b o B:Nat} {ks:List Int} (h:IntsAt w b o ks) (hb:Below B w w') (hB:b<B):IntsAt w' b o ks:=fun i hi=>(hb.cell (p:=⟨b,o+i,none⟩) hB).trans (h i hi)
def IdxI (ks:List Int) (z:Int) (w:World) (e:Ending) (w':World):Prop:=∃r:Int,e= .returned (.int .i64 r)∧decide (0≤r)=ks.contains z∧w'=w
theorem own_len (a:Option Addr) (n m c:Nat):(Value.slice a n c).ownBlock=(Value.slice a m c).ownBlock:=by cases a<;>rfl
theorem idxI_any (ks:List Int) (b o cap:Nat) (z:Int) (w:World) (hl:ks.length≤maxLen) (hc:IntsAt w b o ks):
  Calls prog 222 #[.slice (some ⟨b,o,none⟩) ks.length cap,.int .i64 z] w (IdxI ks z w):=by
 have HC:=hid hc;unfold maxLen at hl;clear hc;go_enter func222,ntmps222;go_wp2_with fail;go_loopw [8] (fun iv wr=>∃i:Nat,i≤ks.length∧iv= .int .i64 i∧wr=w∧Hid (∀j (h:j<ks.length),j<i→ks[j]≠z)) (fun iv _=>ks.length - (intOf iv).toNat)
 case atStart=>exact⟨0,Nat.zero_le _,rfl,rfl,hid (fun j h hj=>by omega)⟩
 case round=>
  obtain⟨i,hi1,rfl,hw,HQ⟩:=hrel;by_cases hil:i<ks.length
  ·have hx:=HC.out i hil;obtain⟨x,hx'⟩:∃x,ks[i]=x:=⟨_,rfl⟩;rw[hx']at hx;have HX:=hid hx';have hil':(i:Int)<(ks.length:Int):=by omega
   have hi0:(0:Int)≤(i:Int):=by omega
   clear hx';subst hw;by_cases hz:z=x
   ·have e1:(z==x)=true:=by simpa using hz
    have HIN:Hid (ks.contains z=true):=hid (by rw[List.contains_iff_mem,hz,←HX.out];exact List.getElem_mem hil);clear hz HC;go_wp2_with fail;go_ret;exact⟨_,rfl,by rw[HIN.out];exact decide_eq_true (by omega),rfl⟩
   ·have e1:(z==x)=false:=by simpa using hz
    have HN:Hid (x≠z):=hid (fun e=>hz e.symm);clear hz HC;go_wp2_with fail;go_roundw
    case rel=>
     refine⟨i+1,by omega,rfl,by first|rfl|trivial,hid (fun j h hj=> ?_)⟩;by_cases e:j<i
     ·exact HQ.out j h e
     ·obtain rfl:j=i:=by omega
      rw[HX.out];exact HN.out
    case measure=>simp[intOf];omega
  ·obtain rfl:i=ks.length:=by omega
   subst hw;have HNO:Hid (ks.contains z=false):=hid (by
    cases e:ks.contains z with
    | false=>rfl
    | true=>
     obtain⟨j,hj,e2⟩:=List.getElem_of_mem (List.contains_iff_mem.1 e);exact(HQ.out j hj hj e2).elim)
   clear HC HQ;go_wp2_with fail;go_ret;exact⟨_,rfl,by rw[HNO.out];rfl,rfl⟩
theorem contI_any (ks:List Int) (b o cap:Nat) (z:Int) (w:World) (hl:ks.length≤maxLen) (hc:IntsAt w b o ks):
  Calls prog 209 #[.slice (some ⟨b,o,none⟩) ks.length cap,.int .i64 z] w fun e w'=>e= .returned (.bool (ks.contains z))∧w'=w:=by
 have HI:=hid (idxI_any ks b o cap z w hl hc);unfold IdxI at HI;obtain⟨x,hx⟩:∃x,ks.contains z=x:=⟨_,rfl⟩;rw[hx]at HI⊢;clear hc hx;go_enter func209,ntmps209;go_wp2_with fail;refine HI.out.mono ?_;rintro e w1 ⟨r,rfl,hr,rfl⟩;go_wp2_with fail;go_ret;exact⟨by rw[←hr];rfl,rfl⟩
theorem infoI:(prog.info? 3).map (fun i=>(i.zero,i.size,i.bytes))=some (some (.int .i64 0),1,8):=by kernel_rfl
def NumI (B g q kb kc:Nat) (ks:List Int) (p:List Int) (v:Value) (w:World):Prop:=
 Bk w g 41 #[v]∧w.ownsRow B 3 1 v p.length (p.map (Value.int .i64))∧v.ownBlock≠some g∧w.cell? ⟨q,0,none⟩=some (.slice (some ⟨kb,0,none⟩) ks.length kc)∧IntsAt w kb 0 ks
def NumT (g:Nat) (v:Value) (k:Nat):Prop:=k=g∨v.ownBlock=some k
theorem grown_set (w:World) (g q:Nat) (u:Value):w.grownBy (w.setCell ⟨g,q,none⟩ u) (some g):=
 ⟨rfl,rfl,rfl,by simp[World.setCell],fun k _ hk=>Below.heap_setCell _ _ _ _ (fun e=>hk (by rw[e]))⟩
theorem tell_num (B g q kb kc:Nat) (ks:List Int) (hg:B≤g) (hq:q<B) (hk:kb<B) (hkl:ks.length≤2):
  Teller B 230 [.pointer (some ⟨q,0,none⟩),.pointer (some ⟨g,0,none⟩)] (NumI B g q kb kc ks) (NumT g) (numF (fun k=>ks.contains k)) List.length where
 cnt:=fun p t x=>by unfold numF;split<;>simp
 keep:=fun p v w w' h hb=>by
  obtain⟨h1,h2,h3,h4,h5⟩:=h;have hlt:=World.block_lt_of_cell? w _ h4;have hkw:∀i (hi:i<ks.length),kb<w.heap.size:=fun i hi=>World.block_lt_of_cell? w _ (h5 i hi);refine⟨h1.below hb h1.lt,h2.kept (row:=none) ⟨hb.os,hb.tape,hb.output,hb.size,fun k hk _=>hb.block k hk⟩ (by cases hv:v.ownBlock<;>simp),h3,(hb.cell (p:=⟨q,0,none⟩) hlt).trans h4,fun i hi=>(hb.cell (p:=⟨kb,0+i,none⟩) (hkw i hi)).trans (h5 i hi)⟩
 lt:=fun p v w h k hk=>by
  obtain⟨h1,h2,_⟩:=h;rcases hk with rfl|hk
  ·exact⟨hg,h1.lt⟩
  ·exact h2.lt k hk
 call:=by
  intro t x lo hi A cap p v w h hn hhi hB hx0 hx1 hn0 hn1 hcp;obtain⟨i0,hi0,hz0,hz1,hz2⟩:=info_parts infoI;obtain⟨b1,b2,b3,b4,b5⟩:=h;have hlt:=b1.lt;have hqw:=World.block_lt_of_cell? w _ b4;simp only at hqw;have c1:=b1.cell 0;simp at c1;have HB1:=hid b1;have HB2:=hid b2;have HB3:=hid b3;have HB4:=hid b4;have HB5:=hid b5;have HW1:=hid (fun o1=>(Below.refl w.heap.size w).alloc lrM4 o1);have HCT:=hid (fun o1=>contI_any ks kb 0 kc t.k (w.alloc o1) (by unfold maxLen;omega) (fun i hi=>(World.cell?_alloc_lt _ _ _ (World.block_lt_of_cell? w _ (HB5.out i hi))).trans (HB5.out i hi)));have HNF:=hid (show numF (fun k=>ks.contains k) p t x=if ks.contains t.k=true then p++[t.n]else p from rfl);have HCP:=hid hcp;obtain⟨a1,cc1,rfl⟩:=own_sliceM b2;obtain⟨y,hy⟩:∃y,ks.contains t.k=y:=⟨_,rfl⟩;rw[hy]at HCT HNF;clear b1 b2 b3 b5 hy hcp;show Calls _ _ #[termV t A cap,.int .i64 x,.pointer (some ⟨q,0,none⟩),.pointer (some ⟨g,0,none⟩)] _ _
  unfold termV;cases y with
  | false=>
   have HF2:=hid (show numF (fun k=>ks.contains k) p t x=p by rw[HNF.out];rfl);go_enter func230,ntmps230;go_wp2_with fail;refine(HCT.out _).mono ?_;rintro e w1 ⟨rfl,rfl⟩;go_wp2_with fail;go_end0
   refine⟨rfl,.slice a1 p.length cc1, ?_,Aside.none _,fun k hk=> .inl hk⟩;rw[HF2.out];refine⟨HB1.out.alloc _,HB2.out.kept (row:=none) ⟨rfl,rfl,rfl,by simp,fun k hk _=>Below.heap_alloc _ _ _ hk⟩ (by cases hv:(Value.slice a1 p.length cc1).ownBlock<;>simp),HB3.out,(World.cell?_alloc_lt _ _ _ hqw).trans HB4.out,fun i hi=>(World.cell?_alloc_lt _ _ _ (World.block_lt_of_cell? w _ (HB5.out i hi))).trans (HB5.out i hi)⟩
  | true=>
   have HF2:=hid (show numF (fun k=>ks.contains k) p t x=p++[t.n]by rw[HNF.out];rfl);obtain⟨M,hM⟩:∃M,p.length=M:=⟨_,rfl⟩;have HM:=hid hM;have hM9:M≤8191:=by have:=HCP.out;omega
   have HM9:=hid hM9;rw[hM]at c1;have HOW:=hid (fun(o1 o2:Obj)=>(show((w.alloc o1).alloc o2).ownsRow B 3 1 (.slice a1 M cc1) M (p.map (Value.int .i64))from by
    have:=HB2.out.kept (w':=(w.alloc o1).alloc o2) (row:=none) ⟨rfl,rfl,rfl,by simp;omega,fun k hk _=>(Below.heap_alloc _ _ _ (by simp;omega)).trans (Below.heap_alloc _ _ _ hk)⟩ (by cases hv:(Value.slice a1 p.length cc1).ownBlock<;>simp);rw[HM.out]at this;exact this))
   have hown1:(Value.slice a1 M cc1).ownBlock≠some g:=by rw[own_len a1 M p.length];exact HB3.out
   have hlb:∀k,(Value.slice a1 M cc1).ownBlock=some k→k<w.heap.size:=fun k hk=>(HB2.out.lt k (by rw[own_len a1 p.length M];exact hk)).2;have HOB:=hid hown1;have HLB:=hid hlb;have hTv:∀k,NumT g (Value.slice a1 p.length cc1) k↔k=g∨(Value.slice a1 M cc1).ownBlock=some k:=fun k=>by unfold NumT;rw[own_len a1 p.length M]
   have HTV:=hid hTv;clear hM hM9 hown1 hlb hTv;go_enter func230,ntmps230;go_wp2_with fail;refine(HCT.out _).mono ?_;rintro e w1 ⟨rfl,rfl⟩;go_wp2_with (at_builtin;refine wpList_app rfl _ _ 41 rfl B 3 i0 (.int .i64 0) 1 8 Tryz.underlying41 hi0 hz0 hz1 hz2 rfl (by decide) _ _ _ rfl (HOW.out _ _) (some ⟨w.heap.size+1,0,none⟩) 1 1 [.int .i64 t.n] rfl (src_at _ _ _ (by simp) rfl) (by simp[Value.oneCell']) ?c3 ?c4 ?c5 ?_)
   case c3=>have:=HM9.out;unfold maxLen;omega
   case c4=>have:=HM9.out;omega
   case c5=>simp;omega
   rintro v2 w3 ⟨hown3,hg3,ho3⟩;obtain⟨a2,cc2,rfl⟩:=own_sliceM hown3;have hsz3:=hg3.size;simp at hsz3;have hlt3:g<w3.heap.size:=by omega
   have b3:Bk w3 g 41 #[.slice a1 M cc1]:=by
    have h1:=HB1.out;rw[HM.out]at h1;exact((h1.alloc _).alloc _).grown hg3 (fun e=>HOB.out e.symm)
   have hfz:=b3.cold 0;have c3:=b3.cell 0;simp at c3;have HB3':=hid b3;have HG3:=hid hg3;have HO3:=hid ho3;have HOWN3:=hid hown3;clear b3 hg3 ho3 hown3;go_wp2_with fail;go_end0
   have hv2:(Value.slice a2 (M+1) cc2).ownBlock≠some g:=by
    rcases HO3.out with h|h
    ·rw[h];exact HOB.out
    ·rw[h];simp;omega
   have hasd:Aside (NumT g (.slice a1 p.length cc1)) w (w3.setCell ⟨g,0,none⟩ (.slice a2 (M+1) cc2)):=by
    refine⟨HG3.out.os,HG3.out.tape,HG3.out.output,by simp[World.setCell];omega,fun k hk hnt=> ?_⟩;have hnt':=fun h=>hnt ((HTV.out k).2 h);have h1:k≠g:=fun e=>hnt' (.inl e);have h2:some k≠(Value.slice a1 M cc1).ownBlock:=fun e=>hnt' (.inr e.symm);rw[Below.heap_setCell _ _ _ _ h1,HG3.out.block k (by simp;omega) h2,Below.heap_alloc _ _ _ (by simp;omega),Below.heap_alloc _ _ _ hk]
   have hbel:=hasd.below (B:=B) (fun k hk=>by
    rcases(HTV.out k).1 hk with rfl|h
    ·exact hg
    ·exact(HB2.out.lt k (by rw[own_len a1 p.length M];exact h)).1) hB
   refine⟨rfl,.slice a2 (M+1) cc2, ?_,hasd,fun k hk=> ?_⟩
   ·rw[HF2.out];refine⟨HB3'.out.at_ 0 _, ?_,hv2,(hbel.cell (p:=⟨q,0,none⟩) hq).trans HB4.out,fun i hi=>(hbel.cell (p:=⟨kb,0+i,none⟩) hk).trans (HB5.out i hi)⟩;have h1:=HOWN3.out.kept (grown_set w3 g 0 (.slice a2 (M+1) cc2)) (.inr hv2);rw[List.length_append,List.map_append,HM.out];exact h1
   ·rcases hk with rfl|hk
    ·exact .inl (.inl rfl)
    ·rcases HO3.out with h|h
     ·left
      exact(HTV.out k).2 (.inr (by rw[←h];exact hk))
     ·right
      rw[h]at hk;injection hk with hk;simp at hk;omega
def NumsIs (l:List Int) (w:World) (e:Ending) (w':World):Prop:=∃v,e= .returned v∧w'.ownsRow w.heap.size 3 1 v l.length (l.map (Value.int .i64))∧Below w.heap.size w w'
theorem sortI_any (blk cap:Nat) (zs:List Int) (w:World) (hH:Holds (Value.int .i64) w blk 0 zs.toArray) (hblk:blk<w.heap.size) (hsz:zs.length<4611686018427387904):
  Calls prog 231 #[.slice (some ⟨blk,0,none⟩) zs.length cap] w fun e w'=>e= .returned (.tuple #[])∧∃n os,w'=grow (putRow (Value.int .i64) (Sort.ahead w n) blk 0 (zs.mergeSort fun x y=>decide (x≤y)).toArray) os:=
 calls_of_every_depth fun D=>AnyS.slices_Sort_int_alone Tryz.lays189 D blk 0 cap zs w hH hblk hsz
theorem sortI_none (p:Option Addr) (cap:Nat) (w:World):Calls prog 231 #[.slice p 0 cap] w fun e w'=>e= .returned (.tuple #[])∧w'=w:=Any.slices_Sort_int_none Tryz.lays189 p cap w
theorem compI_any (blk cap:Nat) (zs:List Int) (w:World) (hH:Holds (Value.int .i64) w blk 0 zs.toArray) (hsz:zs.length≤9223372036854775807) (hcap:zs.length≤cap):
  Calls prog 232 #[.slice (some ⟨blk,0,none⟩) zs.length cap] w fun e w'=>e= .returned (.slice (some ⟨blk,0,none⟩) (Lib.compact zs).length cap)∧∃q,w'=putRow (Value.int .i64) (Sort.ahead w q) blk 0 (Lib.compact zs++List.replicate (zs.length - (Lib.compact zs).length) 0).toArray:=Any.slices_Compact_int Tryz.laysCompact blk 0 cap zs w hH hsz hcap
theorem compI_none (a:Option Addr) (cap:Nat) (w:World):Calls prog 232 #[.slice a 0 cap] w fun e w'=>e= .returned (.slice a 0 cap)∧w'=w:=Any.slices_Compact_int_empty Tryz.laysCompact a cap w
theorem holds_own {w:World} {base g cap:Nat} {zs:List Int} (h:w.ownsRow base 3 1 (.slice (some ⟨g,0,none⟩) zs.length cap) zs.length (zs.map (Value.int .i64))):Holds (Value.int .i64) w g 0 zs.toArray:=by
 intro j hj;have hj':j<zs.length:=by simpa using hj
 rcases h.2 with ⟨h0,_⟩|⟨g',cap',cur,hv,hb,hgc,h1,h2,h3,h4⟩
 ·cases h0
 ·cases hv
  refine⟨?_,by simp[World.frozen?,hgc]⟩;have:=h.cellAt j (by omega);rw[Nat.zero_add,this];simp[hj']
theorem ownsRow_base {w:World} {base base':Nat} {e:TypeId} {size:Nat} {v:Value} {n:Nat} {xs:List Value} (h:w.ownsRow base e size v n xs) (hb:base'≤base):w.ownsRow base' e size v n xs:=by
 refine⟨h.1, ?_⟩;rcases h.2 with h1|⟨g,cap,cur,h1,h2,h3⟩
 ·exact .inl h1
 ·exact .inr ⟨g,cap,cur,h1,by omega,h3⟩
theorem grown_put (w:World) (q g:Nat) (d:Array Int):w.grownBy (putRow (Value.int .i64) (Sort.ahead w q) g 0 d) (some g):=
 ⟨rfl,rfl,rfl,by simp[putRow,mapBlock,Sort.ahead],fun k _ hk=>by
  have:g≠k:=fun e=>hk (by rw[e]);simp[putRow,mapBlock,Sort.ahead,Array.getElem?_modify,this]⟩
def SortIs (base g c:Nat) (p q:List Int) (w:World) (e:Ending) (w':World):Prop:=e= .returned (.tuple #[])∧w'.ownsRow base 3 1 (.slice (some ⟨g,0,none⟩) p.length c) p.length (q.map (Value.int .i64))∧w.grownBy w' (some g)
theorem sortI_own {base g c:Nat} {p:List Int} {w:World} (h:w.ownsRow base 3 1 (.slice (some ⟨g,0,none⟩) p.length c) p.length (p.map (Value.int .i64))) (hp:p.length≤8192):
  Calls prog 231 #[.slice (some ⟨g,0,none⟩) p.length c] w (SortIs base g c p (p.mergeSort fun x y=>decide (x≤y)) w):=by
 have hl:(p.mergeSort fun x y=>decide (x≤y)).length=p.length:=List.length_mergeSort p;rcases h.2 with ⟨h0,_⟩|⟨g',c',cur,hv,hb,hgc,h1,h2,h3,h4⟩
 ·cases h0
 cases hv
 refine(sortI_any g c p w (holds_own h) (by rcases Nat.lt_or_ge g w.heap.size with hlt|hge;exact hlt;rw[Array.getElem?_eq_none hge]at hgc;cases hgc) (by omega)).mono ?_;rintro e w' ⟨rfl,n,os,rfl⟩;exact⟨rfl,ownsRow_sortedI hl hb hgc h1 h2 h3,grownBy_sortedI _⟩
def CompIs (base g c:Nat) (q:List Int) (w:World) (e:Ending) (w':World):Prop:=e= .returned (.slice (some ⟨g,0,none⟩) q.length c)∧w'.ownsRow base 3 1 (.slice (some ⟨g,0,none⟩) q.length c) q.length (q.map (Value.int .i64))∧w.grownBy w' (some g)
theorem compI_own {base g c:Nat} {p:List Int} {w:World} (h:w.ownsRow base 3 1 (.slice (some ⟨g,0,none⟩) p.length c) p.length (p.map (Value.int .i64))) (hp:p.length≤8192):
  Calls prog 232 #[.slice (some ⟨g,0,none⟩) p.length c] w (CompIs base g c (Lib.compact p) w):=by
 have hle:=Lib.compact_length_le p;have hcap:p.length≤c:=by
  rcases h.2 with ⟨h0,_⟩|⟨g',c',cur,hv,hb,hgc,h1,h2,h3,h4⟩
  ·cases h0
  ·cases hv;exact h1
 refine(compI_any g c p w (holds_own h) (by omega) hcap).mono ?_;rintro e w' ⟨rfl,q,rfl⟩;have hc:=Lib.ownsRow_putRow (q:=q) (k:=(Lib.compact p).length) (ys:=Lib.compact p++List.replicate (p.length - (Lib.compact p).length) 0) h (by simp;omega) (by omega);rw[List.take_left]at hc;exact⟨rfl,hc,grown_put w q g _⟩
def numsL (ks:List Int) (t:TM):List Int:=if shapedB t then setL (colT (fun k=>ks.contains k) t)else[]
theorem colL_len (f:Int→Bool):∀t:TM,(colT f t).length≤t.size:=by
 intro t;induction t using TM.ind with
 | h k n l ih=>
  rw[colT_node,tsize_node];have hL:∀r:List TM,(∀u∈r,u∈l)→(colL f r).length≤sizeM r:=by
   intro r;induction r with
   | nil=>intro _;rw[colL_nil];simp
   | cons u r ihr=>
    intro hm;rw[colL_cons,sizeM_cons,List.length_append];have h1:=ih u (hm u List.mem_cons_self);have h2:=ihr (fun v hv=>hm v (List.mem_cons_of_mem _ hv));omega
  have:=hL l (fun _ h=>h);rw[List.length_append];split<;>simp<;>omega
theorem numbers_any (t:TM) (ks:List Int) (kb kc:Nat) (lo hi:Nat) (A:Option Addr) (cap:Nat) (w:World) (h:IsTerm w lo hi t A cap) (hhi:hi≤w.heap.size) (hS:ShapesM w) (hks:ks.length≤2) (hkb:kb<w.heap.size) (hka:IntsAt w kb 0 ks):
  Calls prog 221 #[termV t A cap,.slice (some ⟨kb,0,none⟩) ks.length kc] w (NumsIs (numsL ks t) w):=by
 have hsh:=fun W h1 h2 h3=>shaped_any t lo hi A cap W h1 h2 h3;have HW2:=hid (fun o1 o2=>((Below.refl w.heap.size w).alloc lrM4 o1).alloc (by simp) o2);have HH:=hid (fun W (hb:Below w.heap.size w W)=>h.kept hb hhi);have HSS:=hid (fun W (hb:Below w.heap.size w W)=>hS.kept hb);have HKA:=hid (fun W (hb:Below w.heap.size w W)=>hka.kept hb hkb);have hgl:=hS.lt;have HKS:=hid hks;unfold numsL;clear h hS hka;cases hx:shapedB t with
 | false=>
  rw[hx]at hsh;have HC:=hid hsh;rw[if_neg (by simp)];unfold termV at HC⊢;clear hsh hx hks;go_enter func221,ntmps221;go_wp2_with fail;refine(HC.out _ (HH.out _ (HW2.out _ _)) (by simp;omega) (HSS.out _ (HW2.out _ _))).mono ?_;rintro e w1 ⟨rfl,hb1⟩;go_wp2_with fail;go_ret;exact⟨_,rfl,World.ownsRow_nil _ _ _ _,(HW2.out _ _).trans (hb1.mono (by simp;omega))⟩
 | true=>
  rw[hx]at hsh;rw[if_pos rfl];obtain⟨f1,f2,f3⟩:=shapedB_true.1 hx;obtain⟨p,hp⟩:∃p,colT (fun k=>ks.contains k) t=p:=⟨_,rfl⟩;have hlen:=colL_len (fun k=>ks.contains k) t;have hfold:=fold_num (fun k=>ks.contains k) t [] 0;rw[hp]at hlen hfold;rw[hp];rw[List.nil_append]at hfold;have hplen:p.length≤8192:=by omega
  have HPL:=hid hplen;have HFO:=hid hfold;have HF:=hid (And.intro f2 (And.intro f3 f1));have HC:=hid hsh;have HE:=hid (fun(B g q:Nat) (hg:B≤g) (hq:q<B) (hk:kb<B) (W:World)=>each_numbers ⟨q,0,none⟩ ⟨g,0,none⟩ (tell_num B g q kb kc ks hg hq hk HKS.out) t 0 lo hi A cap [] (.slice none 0 0) W);unfold termV at HC HE⊢;clear hsh hx f1 f2 f3 hp hlen hfold hplen hks;go_enter func221,ntmps221;go_wp2_with fail;refine(HC.out _ (HH.out _ (HW2.out _ _)) (by simp;omega) (HSS.out _ (HW2.out _ _))).mono ?_;rintro e w1 ⟨rfl,hb1⟩;have hz1:=hb1.size;simp at hz1;have HB1:=hid ((HW2.out (.cells #[.int .i64 t.k,.int .i64 t.n,.slice A t.l.length cap] 25) (.cells #[.slice (some ⟨kb,0,none⟩) ks.length kc] 41)).trans (hb1.mono (by simp;omega)));have b1:Bk w1 (w.heap.size+1) 41 #[.slice (some ⟨kb,0,none⟩) ks.length kc]:=(Bk.last (w.alloc (.cells #[.int .i64 t.k,.int .i64 t.n,.slice A t.l.length cap] 25)) 41 #[.slice (some ⟨kb,0,none⟩) ks.length kc] (by simp)).below hb1 (by simp);have b0:Bk w1 w.heap.size 25 #[.int .i64 t.k,.int .i64 t.n,.slice A t.l.length cap]:=((Bk.new w _ _).alloc _).below hb1 (by simp;omega);have c0:w1.cell? ⟨w.heap.size,0,none⟩=some (.int .i64 t.k):=b0.cell 0;have c1:w1.cell? ⟨w.heap.size,1,none⟩=some (.int .i64 t.n):=b0.cell 1;have c2:w1.cell? ⟨w.heap.size,2,none⟩=some (.slice A t.l.length cap):=b0.cell 2;have hl0:w.heap.size<w1.heap.size:=by omega
  have hl1:w.heap.size+1<w1.heap.size:=by omega
  have hl2:kb<w1.heap.size:=by omega
  have HK0:=hid (show w1.cell? ⟨w.heap.size+1,0,none⟩=some (.slice (some ⟨kb,0,none⟩) ks.length kc)from b1.cell 0);have HBa:=hid (HB1.out.alloc (by omega) (.cells #[.slice none 0 0] 41));have hNI:NumI w1.heap.size w1.heap.size (w.heap.size+1) kb kc ks [] (.slice none 0 0) (w1.alloc (.cells #[.slice none 0 0] 41)):=
   ⟨Bk.new _ _ _,World.ownsRow_nil _ _ _ _,by simp[Value.ownBlock],(World.cell?_alloc_lt _ _ _ hl1).trans HK0.out,HKA.out _ HBa.out⟩
  have HNI:=hid hNI;clear b0 b1 hb1 hNI;go_wp2_with fail;refine(HE.out w1.heap.size w1.heap.size (w.heap.size+1) lrM4 hl1 hl2 _ HNI.out (HH.out _ HBa.out) (by omega) (by simp) (by omega) (by have:=HF.out.1;omega) HF.out.2.1 (HSS.out _ HBa.out) (by omega) (by have:=HF.out.2.2;simp;omega)).mono ?_;rintro e w2 ⟨rfl,v2,⟨b2,ho2,hv2,_,_⟩,hA2,_⟩;rw[HFO.out]at ho2;have hbel2:=hA2.below (B:=w1.heap.size) (fun k hk=>by
   rcases hk with rfl|hk
   ·omega
   ·simp[Value.ownBlock]at hk) (by simp)
  have HB2:=hid (HBa.out.trans (hbel2.mono (by omega)));have hz2:=HB2.out.size;have hl3:=b2.lt;have hfz2:=b2.cold 0;have c3:=b2.cell 0;simp at c3;have HBK2:=hid b2;have HO2:=hid ho2;have HV2:=hid hv2;clear b2 ho2 hv2 hA2 hbel2 c0 c1 c2;by_cases h0:p.length=0
  ·obtain⟨a2,cc2,rfl⟩:=own_sliceM HO2.out;rw[h0]at c3;have HP0:Hid (p=[]):=hid (List.eq_nil_of_length_eq_zero h0);have HS0:=hid (fun W=>sortI_none a2 cc2 W);have HC0:=hid (fun W=>compI_none a2 cc2 W);clear h0;go_wp2_with fail;refine(HS0.out _).mono ?_;rintro e w3 ⟨rfl,rfl⟩;go_wp2_with fail;refine(HC0.out _).mono ?_;rintro e w4 ⟨rfl,rfl⟩;go_wp2_with fail;go_ret;refine⟨_,rfl, ?_,HB2.out⟩;have:=HO2.out;rw[HP0.out]at this⊢;rw[setL_nil];exact ownsRow_base this (by omega)
  ·obtain⟨g,c,hv,hg1,hg2⟩:=HO2.out.form (by omega);subst hv;have HSO:=hid (sortI_own HO2.out HPL.out);have hne:w1.heap.size≠g:=fun e=>by have:=HV2.out;simp[Value.ownBlock]at this;omega
   have HNE:=hid hne;have hnelen:p.length=(p.mergeSort fun x y=>decide (x≤y)).length:=(List.length_mergeSort p).symm;have HNL:=hid hnelen;clear h0 hne hnelen;go_wp2_with fail;refine HSO.out.mono ?_;rintro e w3 ⟨rfl,ho3,hg3⟩;have b3:=HBK2.out.grown hg3 (fun e=>HNE.out (by injection e));have c4:=b3.cell 0;simp at c4;have hl4:=b3.lt;have HB3:=hid (HB2.out.grown hg3 (by omega) (fun k hk=>by injection hk with hk;omega));have hz3:=HB3.out.size;rw[HNL.out]at ho3;have HCO:=hid (compI_own ho3 (by rw[←HNL.out];exact HPL.out));rw[←HNL.out]at HCO;clear b3 ho3 hg3 c3;go_wp2_with fail;refine HCO.out.mono ?_;rintro e w4 ⟨rfl,ho4,hg4⟩;have HB4:=hid (HB3.out.grown hg4 (by omega) (fun k hk=>by injection hk with hk;omega));have HO4:=hid ho4;clear ho4 hg4;go_wp2_with fail;go_ret;exact⟨_,rfl,ownsRow_base HO4.out (by omega),HB4.out⟩
theorem NumsIs.at_ {l:List Int} {w:World} {w1:World} {e:Ending} {w':World} (h:NumsIs l w1 e w') (hb:Below w.heap.size w w1):NumsIs l w e w':=by
 obtain⟨v,rfl,h1,h2⟩:=h;exact⟨v,rfl,ownsRow_base h1 hb.size,hb.trans (h2.mono hb.size)⟩
theorem frees_any (t:TM) (lo hi:Nat) (A:Option Addr) (cap:Nat) (w:World) (h:IsTerm w lo hi t A cap) (hhi:hi≤w.heap.size) (hS:ShapesM w):
  Calls prog 205 #[termV t A cap] w (NumsIs (numsL [8] t) w):=by
 have HW2:=hid (fun o1 o2=>((Below.refl w.heap.size w).alloc lrM4 o1).alloc (by simp) o2);have HH:=hid (fun W (hb:Below w.heap.size w W)=>h.kept hb hhi);have HSS:=hid (fun W (hb:Below w.heap.size w W)=>hS.kept hb);have HN:=hid (fun W h1 h2 h3 h4 h5=>numbers_any t [8] (w.heap.size+1) 1 lo hi A cap W h1 h2 h3 (by simp) h4 h5);have HBK:=hid (Bk.last (w.alloc (.cells #[.int .i64 t.k,.int .i64 t.n,.slice A t.l.length cap] 25)) 3 #[.int .i64 8] (g:=w.heap.size+1) (by simp));obtain⟨L,hL⟩:∃L,numsL [8] t=L:=⟨_,rfl⟩;rw[hL]at HN⊢;unfold termV at HN⊢;clear h hS hL;go_enter func205,ntmps205;go_wp2_with fail;refine(HN.out _ (HH.out _ (HW2.out _ _)) (by simp;omega) (HSS.out _ (HW2.out _ _)) (by simp) (fun i hi=> ?_)).mono ?_
 ·obtain rfl:i=0:=by simp at hi;omega
  exact HBK.out.cell 0
 rintro e w1 hn;obtain⟨v,rfl,h1,h2⟩:=hn.at_ (HW2.out _ _);obtain⟨a,c,rfl⟩:=own_sliceM h1;have HO:=hid (And.intro h1 h2);clear h1 h2 hn;go_wp2_with fail;go_ret;exact⟨_,rfl,HO.out.1,HO.out.2⟩
end Go.Proofs.YtchllgkgjompgaaGreatDoor
