import Derived.Test.YtchllgkgjompgaaGreatDoorA1
import Derived.OwnWalk
import Derived.Maps.AppendAt
import Derived.WalkSpells
namespace Go.Proofs.YtchllgkgjompgaaGreatDoor
set_option maxHeartbeats 400000
set_option maxRecDepth 100000
open Go.RowKit
set_option linter.unusedVariables false
open Go.Proofs.Tryz
theorem cell_one_new' (w:World) (x:Value) (t:TypeId):∀j u,[x][j]? =some u→(w.alloc (.cells #[x] t)).cell? ((⟨w.heap.size,0,none⟩:Addr).add j)=some u:=by
 intro j u hj
 match j,hj with
 | 0,hj=>
  obtain rfl:x=u:=by simpa using hj
  have:(⟨w.heap.size,0,none⟩:Addr).add 0=⟨w.heap.size,0,none⟩:=rfl;rw[this,World.cell?_alloc_mark];rfl
theorem cell_one_at (w:World) (x:Value) (t:TypeId) (g:Nat) (hg:g=w.heap.size):∀j u,[x][j]? =some u→(w.alloc (.cells #[x] t)).cell? ((⟨g,0,none⟩:Addr).add j)=some u:=by
 subst hg;exact cell_one_new' w x t
theorem one_cell {k:IntKind} (n:Int):∀u∈[Value.int k n],u.oneCell'=true:=by
 intro u hu;simp at hu;subst hu;rfl
theorem below_append {B:Nat} {a W w1:World} {e:TypeId} {s n:Nat} {v:Value} {xs:List Value} (h:Below B a W) (hown:W.ownsRow B e s v n xs) (hg:W.grownBy w1 v.ownBlock) (hB:B≤W.heap.size):Below B a w1:=
 h.grown hg hB (fun k hk=>(hown.lt k hk).1)
theorem own_open {w:World} {base:Nat} {e:TypeId} {v:Value} {n:Nat} {xs:List Value} (h:w.ownsRow base e 1 v n xs) (hn:0<n):
  ∃g cap,v= .slice (some ⟨g,0,none⟩) n cap∧base≤g∧g<w.heap.size∧∀j u,xs[j]? =some u→w.cell? ((⟨g,0,none⟩:Addr).add j)=some u:=by
 rcases h.2 with ⟨_,h0⟩|⟨g,cap,cur,rfl,hb,hg,hr⟩
 ·omega
 ·have hl:=h.lt g rfl;exact⟨g,cap,rfl,hl.1,hl.2,h.cells (g:=g) rfl⟩
theorem conv_str (w:World) (s:ByteArray) (a b n:Nat) (hn:b=a+n) (hb:b≤s.size):
  ∃cap W,(convert 9 225 (.string (s.extract a b))).run prog w= .ok (.slice (some ⟨w.heap.size,0,none⟩) n cap) W∧Below w.heap.size w W∧
   ∀i,i<n→W.cell? ⟨w.heap.size,i,none⟩=some (.int .u8 (byt s (a+i))):=by
 have hsz:(s.extract a b).size=n:=by simp;omega
 have hr:=run_bytes_of_string (P:=prog) w 9 225 5 (s.extract a b) Tryz.underlying9 Tryz.underlying225 Tryz.underlying5;generalize hC:bytesRow (s.extract a b) _=C at hr
 rw[hsz]at hr hC;refine⟨_,_,hr,((Below.refl _ _).drew).alloc (Nat.le_refl _) _, ?_⟩;intro i h;have e:w.heap.size=w.drew.heap.size:=rfl;rw[e,World.cell?_alloc_mark,←hC];unfold bytesRow;rw[Array.getElem?_append_left (by simp;omega),←byt_eq s (a+i) (by omega)];have hi:i<(s.extract a b).size:=by omega
 have e1:(s.extract a b).data[i]? =some (s[a+i]'(by omega)):=by
  rw[Array.getElem?_eq_getElem (by simpa using hi)];exact congrArg some (ByteArray.getElem_extract (start:=a) (stop:=b) (i:=i) hi)
 rw[Array.getElem?_map,e1];rfl
theorem nx_0 (s:ByteArray) (k:Nat) (w:World) (hs:s.size≤9223372036854775807) (hk:k<s.size) (b0:Int) (hb0:(s[k].toNat:Int)=b0) (h0:0≤b0) (h1:b0≤255) (h2:(128≤b0∧b0<192)∨248≤b0):
  Calls prog 218 #[.string s,.int .i64 k] w fun e w'=>e= .returned (.tuple #[.int .i64 0,.int .i64 0,.int .i64 1])∧Below w.heap.size w w':=by
 have hsh:shareI b0=0:=by unfold shareI;rw[if_neg (by omega),if_pos (by omega)]
 have hsz:sizeI b0=0:=by unfold sizeI;rw[if_neg (by omega),if_pos (by omega)]
 go_enter func218,ntmps218;go_wp2_with fail;refine(first_any _ _ (by omega) (by omega)).mono ?_;rintro e w' ⟨rfl,rfl⟩;rw[hsh,hsz];clear hsh hsz;go_wp2_with fail;go_ret3
 exact⟨rfl,Below.refl _ _⟩
theorem nx2_short (s:ByteArray) (k:Nat) (w:World) (hs:s.size≤9223372036854775807) (hk:k<s.size) (b0:Int) (hb0:(s[k].toNat:Int)=b0) (h0:192≤b0) (h1:b0<224) (h2:s.size<k+2):
  Calls prog 218 #[.string s,.int .i64 k] w fun e w'=>e= .returned (.tuple #[.int .i64 0,.int .i64 0,.int .i64 1])∧Below w.heap.size w w':=by
 have hsh:shareI b0=b0 - 192:=by unfold shareI;rw[if_neg (by omega),if_neg (by omega),if_neg (by omega),if_neg (by omega)]
 have hsz:sizeI b0=2:=by unfold sizeI;rw[if_neg (by omega),if_neg (by omega),if_neg (by omega),if_neg (by omega)]
 have hgt:(s.size:Int) - (k:Int)<2:=by omega
 go_enter func218,ntmps218;go_wp2_with fail;refine(first_any _ _ (by omega) (by omega)).mono ?_;rintro e w' ⟨rfl,rfl⟩;rw[hsh,hsz];clear hsh hsz;go_wp2_with fail;go_ret3
 exact⟨rfl,Below.refl _ _⟩
theorem nx3_short (s:ByteArray) (k:Nat) (w:World) (hs:s.size≤9223372036854775807) (hk:k<s.size) (b0:Int) (hb0:(s[k].toNat:Int)=b0) (h0:224≤b0) (h1:b0<240) (h2:s.size<k+3):
  Calls prog 218 #[.string s,.int .i64 k] w fun e w'=>e= .returned (.tuple #[.int .i64 0,.int .i64 0,.int .i64 1])∧Below w.heap.size w w':=by
 have hsh:shareI b0=b0 - 224:=by unfold shareI;rw[if_neg (by omega),if_neg (by omega),if_neg (by omega),if_pos (by omega)]
 have hsz:sizeI b0=3:=by unfold sizeI;rw[if_neg (by omega),if_neg (by omega),if_neg (by omega),if_pos (by omega)]
 have hgt:(s.size:Int) - (k:Int)<3:=by omega
 go_enter func218,ntmps218;go_wp2_with fail;refine(first_any _ _ (by omega) (by omega)).mono ?_;rintro e w' ⟨rfl,rfl⟩;rw[hsh,hsz];clear hsh hsz;go_wp2_with fail;go_ret3
 exact⟨rfl,Below.refl _ _⟩
theorem nx4_short (s:ByteArray) (k:Nat) (w:World) (hs:s.size≤9223372036854775807) (hk:k<s.size) (b0:Int) (hb0:(s[k].toNat:Int)=b0) (h0:240≤b0) (h1:b0<248) (h2:s.size<k+4):
  Calls prog 218 #[.string s,.int .i64 k] w fun e w'=>e= .returned (.tuple #[.int .i64 0,.int .i64 0,.int .i64 1])∧Below w.heap.size w w':=by
 have hsh:shareI b0=b0 - 240:=by unfold shareI;rw[if_neg (by omega),if_neg (by omega),if_pos (by omega)]
 have hsz:sizeI b0=4:=by unfold sizeI;rw[if_neg (by omega),if_neg (by omega),if_pos (by omega)]
 have hgt:(s.size:Int) - (k:Int)<4:=by omega
 go_enter func218,ntmps218;go_wp2_with fail;refine(first_any _ _ (by omega) (by omega)).mono ?_;rintro e w' ⟨rfl,rfl⟩;rw[hsh,hsz];clear hsh hsz;go_wp2_with fail;go_ret3
 exact⟨rfl,Below.refl _ _⟩
theorem nx1_ok (s:ByteArray) (k:Nat) (w:World) (hs:s.size≤9223372036854775807) (hk:k<s.size) (b0:Int) (hb0:(s[k].toNat:Int)=b0) (h0:0≤b0) (h1:b0<128):
  Calls prog 218 #[.string s,.int .i64 k] w fun e w'=>e= .returned (.tuple #[.int .i64 b0,.int .i64 1,.int .i64 0])∧Below w.heap.size w w':=by
 have hsh:shareI b0=b0:=by unfold shareI;rw[if_pos (by omega)]
 have hsz:sizeI b0=1:=by unfold sizeI;rw[if_pos (by omega)]
 have hr:rightB b0=true:=rightB_true.2 (by omega);have hw:wid b0=1:=wid_1 (by omega);obtain⟨cap,W,hconv,hB, -⟩:=conv_str w s (k+1) (k+1) 0 rfl (by omega);have he:s.extract (k+1) (k+1)=ByteArray.empty:=by
  apply ByteArray.ext
  simp
 rw[he]at hconv;clear he;go_enter func218,ntmps218;go_wp2_with fail;refine(first_any _ _ (by omega) (by omega)).mono ?_;rintro e w' ⟨rfl,rfl⟩;rw[hsh,hsz];clear hsh hsz;go_wp2_with fail;refine wp_loop_rounds 1 ?_;rw[rounds_succ];go_wp2_with fail;refine(right_any _ _).mono ?_;rintro e w' ⟨rfl,rfl⟩;rw[hr];go_wp2_with fail;refine(width_any _ _).mono ?_;rintro e w' ⟨rfl,rfl⟩;rw[hw];go_wp2_with fail;go_ret3
 exact⟨rfl,hB⟩
theorem nx2_f1 (s:ByteArray) (k:Nat) (w:World) (hs:s.size≤9223372036854775807) (hk:k<s.size) (b0:Int) (hb0:(s[k].toNat:Int)=b0) (h0:192≤b0) (h1:b0<224) (hm:k+2≤s.size) (c1:Int) (hc1:byt s (k+1+0)=c1) (lo1:0≤c1) (hi1:c1≤255) (f1:followsB c1=false):
  Calls prog 218 #[.string s,.int .i64 k] w fun e w'=>e= .returned (.tuple #[.int .i64 0,.int .i64 0,.int .i64 1])∧Below w.heap.size w w':=by
 have hsh:shareI b0=b0 - 192:=by unfold shareI;rw[if_neg (by omega),if_neg (by omega),if_neg (by omega),if_neg (by omega)]
 have hsz:sizeI b0=2:=by unfold sizeI;rw[if_neg (by omega),if_neg (by omega),if_neg (by omega),if_neg (by omega)]
 obtain⟨cap,W,hconv,hB,hcell⟩:=conv_str w s (k+1) (k+2) 1 (by omega) hm;have g1:W.cell? ⟨w.heap.size,0,none⟩=some (.int .u8 c1):=by rw[hcell 0 (by omega),hc1]
 have a1:bits .and .u8 c1 63=c1 % 64:=and63_u8 _ lo1 hi1;have o1:bits .or .i64 ((b0 - 192)*64) (c1 % 64)=(b0 - 192)*64+c1 % 64:=or_64 _ _ (by omega) (by omega) (by omega) (by omega);clear hcell hc1;go_enter func218,ntmps218;go_wp2_with fail;refine(first_any _ _ (by omega) (by omega)).mono ?_;rintro e w' ⟨rfl,rfl⟩;rw[hsh,hsz];clear hsh hsz;go_wp2_with fail;refine wp_loop_rounds 2 ?_;rw[rounds_succ];go_wp2_with fail;refine(follows_any _ _).mono ?_;rintro e w' ⟨rfl,rfl⟩;rw[f1];go_wp2_with fail;go_ret3
 exact⟨rfl,hB⟩
theorem nx2_r (s:ByteArray) (k:Nat) (w:World) (hs:s.size≤9223372036854775807) (hk:k<s.size) (b0:Int) (hb0:(s[k].toNat:Int)=b0) (h0:192≤b0) (h1:b0<224) (hm:k+2≤s.size) (c1:Int) (hc1:byt s (k+1+0)=c1) (lo1:0≤c1) (hi1:c1≤255) (f1:followsB c1=true) (hr:rightB ((b0 - 192)*64+c1 % 64)=false):
  Calls prog 218 #[.string s,.int .i64 k] w fun e w'=>e= .returned (.tuple #[.int .i64 0,.int .i64 0,.int .i64 1])∧Below w.heap.size w w':=by
 have hsh:shareI b0=b0 - 192:=by unfold shareI;rw[if_neg (by omega),if_neg (by omega),if_neg (by omega),if_neg (by omega)]
 have hsz:sizeI b0=2:=by unfold sizeI;rw[if_neg (by omega),if_neg (by omega),if_neg (by omega),if_neg (by omega)]
 obtain⟨cap,W,hconv,hB,hcell⟩:=conv_str w s (k+1) (k+2) 1 (by omega) hm;have g1:W.cell? ⟨w.heap.size,0,none⟩=some (.int .u8 c1):=by rw[hcell 0 (by omega),hc1]
 have a1:bits .and .u8 c1 63=c1 % 64:=and63_u8 _ lo1 hi1;have o1:bits .or .i64 ((b0 - 192)*64) (c1 % 64)=(b0 - 192)*64+c1 % 64:=or_64 _ _ (by omega) (by omega) (by omega) (by omega);clear hcell hc1;go_enter func218,ntmps218;go_wp2_with fail;refine(first_any _ _ (by omega) (by omega)).mono ?_;rintro e w' ⟨rfl,rfl⟩;rw[hsh,hsz];clear hsh hsz;go_wp2_with fail;refine wp_loop_rounds 2 ?_;rw[rounds_succ];go_wp2_with fail;refine(follows_any _ _).mono ?_;rintro e w' ⟨rfl,rfl⟩;rw[f1];go_wp2_with fail;rw[rounds_succ];go_wp2_with fail;refine(right_any _ _).mono ?_;rintro e w' ⟨rfl,rfl⟩;rw[hr];go_wp2_with fail;go_ret3
 exact⟨rfl,hB⟩
theorem nx2_w (s:ByteArray) (k:Nat) (w:World) (hs:s.size≤9223372036854775807) (hk:k<s.size) (b0:Int) (hb0:(s[k].toNat:Int)=b0) (h0:192≤b0) (h1:b0<224) (hm:k+2≤s.size) (c1:Int) (hc1:byt s (k+1+0)=c1) (lo1:0≤c1) (hi1:c1≤255) (f1:followsB c1=true) (hr:rightB ((b0 - 192)*64+c1 % 64)=true) (hw:wid ((b0 - 192)*64+c1 % 64)≠2):
  Calls prog 218 #[.string s,.int .i64 k] w fun e w'=>e= .returned (.tuple #[.int .i64 0,.int .i64 0,.int .i64 1])∧Below w.heap.size w w':=by
 obtain⟨x,hx⟩:∃x:Nat,wid ((b0 - 192)*64+c1 % 64)=x:=⟨_,rfl⟩;rw[hx]at hw;have hne:((x:Int)==2)=false:=by simp;omega
 have hsh:shareI b0=b0 - 192:=by unfold shareI;rw[if_neg (by omega),if_neg (by omega),if_neg (by omega),if_neg (by omega)]
 have hsz:sizeI b0=2:=by unfold sizeI;rw[if_neg (by omega),if_neg (by omega),if_neg (by omega),if_neg (by omega)]
 obtain⟨cap,W,hconv,hB,hcell⟩:=conv_str w s (k+1) (k+2) 1 (by omega) hm;have g1:W.cell? ⟨w.heap.size,0,none⟩=some (.int .u8 c1):=by rw[hcell 0 (by omega),hc1]
 have a1:bits .and .u8 c1 63=c1 % 64:=and63_u8 _ lo1 hi1;have o1:bits .or .i64 ((b0 - 192)*64) (c1 % 64)=(b0 - 192)*64+c1 % 64:=or_64 _ _ (by omega) (by omega) (by omega) (by omega);clear hcell hc1;go_enter func218,ntmps218;go_wp2_with fail;refine(first_any _ _ (by omega) (by omega)).mono ?_;rintro e w' ⟨rfl,rfl⟩;rw[hsh,hsz];clear hsh hsz;go_wp2_with fail;refine wp_loop_rounds 2 ?_;rw[rounds_succ];go_wp2_with fail;refine(follows_any _ _).mono ?_;rintro e w' ⟨rfl,rfl⟩;rw[f1];go_wp2_with fail;rw[rounds_succ];go_wp2_with fail;refine(right_any _ _).mono ?_;rintro e w' ⟨rfl,rfl⟩;rw[hr];go_wp2_with fail;refine(width_any _ _).mono ?_;rintro e w' ⟨rfl,rfl⟩;rw[hx];clear hx;go_wp2_with fail;go_ret3
 exact⟨rfl,hB⟩
theorem nx2_ok (s:ByteArray) (k:Nat) (w:World) (hs:s.size≤9223372036854775807) (hk:k<s.size) (b0:Int) (hb0:(s[k].toNat:Int)=b0) (h0:192≤b0) (h1:b0<224) (hm:k+2≤s.size) (c1:Int) (hc1:byt s (k+1+0)=c1) (lo1:0≤c1) (hi1:c1≤255) (f1:followsB c1=true) (hr:rightB ((b0 - 192)*64+c1 % 64)=true) (hw:wid ((b0 - 192)*64+c1 % 64)=2):
  Calls prog 218 #[.string s,.int .i64 k] w fun e w'=>e= .returned (.tuple #[.int .i64 ((b0 - 192)*64+c1 % 64),.int .i64 2,.int .i64 0])∧Below w.heap.size w w':=by
 have hsh:shareI b0=b0 - 192:=by unfold shareI;rw[if_neg (by omega),if_neg (by omega),if_neg (by omega),if_neg (by omega)]
 have hsz:sizeI b0=2:=by unfold sizeI;rw[if_neg (by omega),if_neg (by omega),if_neg (by omega),if_neg (by omega)]
 obtain⟨cap,W,hconv,hB,hcell⟩:=conv_str w s (k+1) (k+2) 1 (by omega) hm;have g1:W.cell? ⟨w.heap.size,0,none⟩=some (.int .u8 c1):=by rw[hcell 0 (by omega),hc1]
 have a1:bits .and .u8 c1 63=c1 % 64:=and63_u8 _ lo1 hi1;have o1:bits .or .i64 ((b0 - 192)*64) (c1 % 64)=(b0 - 192)*64+c1 % 64:=or_64 _ _ (by omega) (by omega) (by omega) (by omega);clear hcell hc1;go_enter func218,ntmps218;go_wp2_with fail;refine(first_any _ _ (by omega) (by omega)).mono ?_;rintro e w' ⟨rfl,rfl⟩;rw[hsh,hsz];clear hsh hsz;go_wp2_with fail;refine wp_loop_rounds 2 ?_;rw[rounds_succ];go_wp2_with fail;refine(follows_any _ _).mono ?_;rintro e w' ⟨rfl,rfl⟩;rw[f1];go_wp2_with fail;rw[rounds_succ];go_wp2_with fail;refine(right_any _ _).mono ?_;rintro e w' ⟨rfl,rfl⟩;rw[hr];go_wp2_with fail;refine(width_any _ _).mono ?_;rintro e w' ⟨rfl,rfl⟩;rw[hw];go_wp2_with fail;go_ret3
 exact⟨rfl,hB⟩
theorem nx3_f1 (s:ByteArray) (k:Nat) (w:World) (hs:s.size≤9223372036854775807) (hk:k<s.size) (b0:Int) (hb0:(s[k].toNat:Int)=b0) (h0:224≤b0) (h1:b0<240) (hm:k+3≤s.size) (c1 c2:Int) (hc1:byt s (k+1+0)=c1) (lo1:0≤c1) (hi1:c1≤255) (hc2:byt s (k+1+1)=c2) (lo2:0≤c2) (hi2:c2≤255) (f1:followsB c1=false):
  Calls prog 218 #[.string s,.int .i64 k] w fun e w'=>e= .returned (.tuple #[.int .i64 0,.int .i64 0,.int .i64 1])∧Below w.heap.size w w':=by
 have hsh:shareI b0=b0 - 224:=by unfold shareI;rw[if_neg (by omega),if_neg (by omega),if_neg (by omega),if_pos (by omega)]
 have hsz:sizeI b0=3:=by unfold sizeI;rw[if_neg (by omega),if_neg (by omega),if_neg (by omega),if_pos (by omega)]
 obtain⟨cap,W,hconv,hB,hcell⟩:=conv_str w s (k+1) (k+3) 2 (by omega) hm;have g1:W.cell? ⟨w.heap.size,0,none⟩=some (.int .u8 c1):=by rw[hcell 0 (by omega),hc1]
 have a1:bits .and .u8 c1 63=c1 % 64:=and63_u8 _ lo1 hi1;have g2:W.cell? ⟨w.heap.size,1,none⟩=some (.int .u8 c2):=by rw[hcell 1 (by omega),hc2]
 have a2:bits .and .u8 c2 63=c2 % 64:=and63_u8 _ lo2 hi2;have o1:bits .or .i64 ((b0 - 224)*64) (c1 % 64)=(b0 - 224)*64+c1 % 64:=or_64 _ _ (by omega) (by omega) (by omega) (by omega);have o2:bits .or .i64 (((b0 - 224)*64+c1 % 64)*64) (c2 % 64)=((b0 - 224)*64+c1 % 64)*64+c2 % 64:=or_64 _ _ (by omega) (by omega) (by omega) (by omega);clear hcell hc1 hc2;go_enter func218,ntmps218;go_wp2_with fail;refine(first_any _ _ (by omega) (by omega)).mono ?_;rintro e w' ⟨rfl,rfl⟩;rw[hsh,hsz];clear hsh hsz;go_wp2_with fail;refine wp_loop_rounds 3 ?_;rw[rounds_succ];go_wp2_with fail;refine(follows_any _ _).mono ?_;rintro e w' ⟨rfl,rfl⟩;rw[f1];go_wp2_with fail;go_ret3
 exact⟨rfl,hB⟩
theorem nx3_f2 (s:ByteArray) (k:Nat) (w:World) (hs:s.size≤9223372036854775807) (hk:k<s.size) (b0:Int) (hb0:(s[k].toNat:Int)=b0) (h0:224≤b0) (h1:b0<240) (hm:k+3≤s.size) (c1 c2:Int) (hc1:byt s (k+1+0)=c1) (lo1:0≤c1) (hi1:c1≤255) (hc2:byt s (k+1+1)=c2) (lo2:0≤c2) (hi2:c2≤255) (f1:followsB c1=true) (f2:followsB c2=false):
  Calls prog 218 #[.string s,.int .i64 k] w fun e w'=>e= .returned (.tuple #[.int .i64 0,.int .i64 0,.int .i64 1])∧Below w.heap.size w w':=by
 have hsh:shareI b0=b0 - 224:=by unfold shareI;rw[if_neg (by omega),if_neg (by omega),if_neg (by omega),if_pos (by omega)]
 have hsz:sizeI b0=3:=by unfold sizeI;rw[if_neg (by omega),if_neg (by omega),if_neg (by omega),if_pos (by omega)]
 obtain⟨cap,W,hconv,hB,hcell⟩:=conv_str w s (k+1) (k+3) 2 (by omega) hm;have g1:W.cell? ⟨w.heap.size,0,none⟩=some (.int .u8 c1):=by rw[hcell 0 (by omega),hc1]
 have a1:bits .and .u8 c1 63=c1 % 64:=and63_u8 _ lo1 hi1;have g2:W.cell? ⟨w.heap.size,1,none⟩=some (.int .u8 c2):=by rw[hcell 1 (by omega),hc2]
 have a2:bits .and .u8 c2 63=c2 % 64:=and63_u8 _ lo2 hi2;have o1:bits .or .i64 ((b0 - 224)*64) (c1 % 64)=(b0 - 224)*64+c1 % 64:=or_64 _ _ (by omega) (by omega) (by omega) (by omega);have o2:bits .or .i64 (((b0 - 224)*64+c1 % 64)*64) (c2 % 64)=((b0 - 224)*64+c1 % 64)*64+c2 % 64:=or_64 _ _ (by omega) (by omega) (by omega) (by omega);clear hcell hc1 hc2;go_enter func218,ntmps218;go_wp2_with fail;refine(first_any _ _ (by omega) (by omega)).mono ?_;rintro e w' ⟨rfl,rfl⟩;rw[hsh,hsz];clear hsh hsz;go_wp2_with fail;refine wp_loop_rounds 3 ?_;rw[rounds_succ];go_wp2_with fail;refine(follows_any _ _).mono ?_;rintro e w' ⟨rfl,rfl⟩;rw[f1];go_wp2_with fail;rw[rounds_succ];go_wp2_with fail;refine(follows_any _ _).mono ?_;rintro e w' ⟨rfl,rfl⟩;rw[f2];go_wp2_with fail;go_ret3
 exact⟨rfl,hB⟩
theorem nx3_r (s:ByteArray) (k:Nat) (w:World) (hs:s.size≤9223372036854775807) (hk:k<s.size) (b0:Int) (hb0:(s[k].toNat:Int)=b0) (h0:224≤b0) (h1:b0<240) (hm:k+3≤s.size) (c1 c2:Int) (hc1:byt s (k+1+0)=c1) (lo1:0≤c1) (hi1:c1≤255) (hc2:byt s (k+1+1)=c2) (lo2:0≤c2) (hi2:c2≤255) (f1:followsB c1=true) (f2:followsB c2=true) (hr:rightB (((b0 - 224)*64+c1 % 64)*64+c2 % 64)=false):
  Calls prog 218 #[.string s,.int .i64 k] w fun e w'=>e= .returned (.tuple #[.int .i64 0,.int .i64 0,.int .i64 1])∧Below w.heap.size w w':=by
 have hsh:shareI b0=b0 - 224:=by unfold shareI;rw[if_neg (by omega),if_neg (by omega),if_neg (by omega),if_pos (by omega)]
 have hsz:sizeI b0=3:=by unfold sizeI;rw[if_neg (by omega),if_neg (by omega),if_neg (by omega),if_pos (by omega)]
 obtain⟨cap,W,hconv,hB,hcell⟩:=conv_str w s (k+1) (k+3) 2 (by omega) hm;have g1:W.cell? ⟨w.heap.size,0,none⟩=some (.int .u8 c1):=by rw[hcell 0 (by omega),hc1]
 have a1:bits .and .u8 c1 63=c1 % 64:=and63_u8 _ lo1 hi1;have g2:W.cell? ⟨w.heap.size,1,none⟩=some (.int .u8 c2):=by rw[hcell 1 (by omega),hc2]
 have a2:bits .and .u8 c2 63=c2 % 64:=and63_u8 _ lo2 hi2;have o1:bits .or .i64 ((b0 - 224)*64) (c1 % 64)=(b0 - 224)*64+c1 % 64:=or_64 _ _ (by omega) (by omega) (by omega) (by omega);have o2:bits .or .i64 (((b0 - 224)*64+c1 % 64)*64) (c2 % 64)=((b0 - 224)*64+c1 % 64)*64+c2 % 64:=or_64 _ _ (by omega) (by omega) (by omega) (by omega);clear hcell hc1 hc2;go_enter func218,ntmps218;go_wp2_with fail;refine(first_any _ _ (by omega) (by omega)).mono ?_;rintro e w' ⟨rfl,rfl⟩;rw[hsh,hsz];clear hsh hsz;go_wp2_with fail;refine wp_loop_rounds 3 ?_;rw[rounds_succ];go_wp2_with fail;refine(follows_any _ _).mono ?_;rintro e w' ⟨rfl,rfl⟩;rw[f1];go_wp2_with fail;rw[rounds_succ];go_wp2_with fail;refine(follows_any _ _).mono ?_;rintro e w' ⟨rfl,rfl⟩;rw[f2];go_wp2_with fail;rw[rounds_succ];go_wp2_with fail;refine(right_any _ _).mono ?_;rintro e w' ⟨rfl,rfl⟩;rw[hr];go_wp2_with fail;go_ret3
 exact⟨rfl,hB⟩
theorem nx3_w (s:ByteArray) (k:Nat) (w:World) (hs:s.size≤9223372036854775807) (hk:k<s.size) (b0:Int) (hb0:(s[k].toNat:Int)=b0) (h0:224≤b0) (h1:b0<240) (hm:k+3≤s.size) (c1 c2:Int) (hc1:byt s (k+1+0)=c1) (lo1:0≤c1) (hi1:c1≤255) (hc2:byt s (k+1+1)=c2) (lo2:0≤c2) (hi2:c2≤255) (f1:followsB c1=true) (f2:followsB c2=true) (hr:rightB (((b0 - 224)*64+c1 % 64)*64+c2 % 64)=true) (hw:wid (((b0 - 224)*64+c1 % 64)*64+c2 % 64)≠3):
  Calls prog 218 #[.string s,.int .i64 k] w fun e w'=>e= .returned (.tuple #[.int .i64 0,.int .i64 0,.int .i64 1])∧Below w.heap.size w w':=by
 obtain⟨x,hx⟩:∃x:Nat,wid (((b0 - 224)*64+c1 % 64)*64+c2 % 64)=x:=⟨_,rfl⟩;rw[hx]at hw;have hne:((x:Int)==3)=false:=by simp;omega
 have hsh:shareI b0=b0 - 224:=by unfold shareI;rw[if_neg (by omega),if_neg (by omega),if_neg (by omega),if_pos (by omega)]
 have hsz:sizeI b0=3:=by unfold sizeI;rw[if_neg (by omega),if_neg (by omega),if_neg (by omega),if_pos (by omega)]
 obtain⟨cap,W,hconv,hB,hcell⟩:=conv_str w s (k+1) (k+3) 2 (by omega) hm;have g1:W.cell? ⟨w.heap.size,0,none⟩=some (.int .u8 c1):=by rw[hcell 0 (by omega),hc1]
 have a1:bits .and .u8 c1 63=c1 % 64:=and63_u8 _ lo1 hi1;have g2:W.cell? ⟨w.heap.size,1,none⟩=some (.int .u8 c2):=by rw[hcell 1 (by omega),hc2]
 have a2:bits .and .u8 c2 63=c2 % 64:=and63_u8 _ lo2 hi2;have o1:bits .or .i64 ((b0 - 224)*64) (c1 % 64)=(b0 - 224)*64+c1 % 64:=or_64 _ _ (by omega) (by omega) (by omega) (by omega);have o2:bits .or .i64 (((b0 - 224)*64+c1 % 64)*64) (c2 % 64)=((b0 - 224)*64+c1 % 64)*64+c2 % 64:=or_64 _ _ (by omega) (by omega) (by omega) (by omega);clear hcell hc1 hc2;go_enter func218,ntmps218;go_wp2_with fail;refine(first_any _ _ (by omega) (by omega)).mono ?_;rintro e w' ⟨rfl,rfl⟩;rw[hsh,hsz];clear hsh hsz;go_wp2_with fail;refine wp_loop_rounds 3 ?_;rw[rounds_succ];go_wp2_with fail;refine(follows_any _ _).mono ?_;rintro e w' ⟨rfl,rfl⟩;rw[f1];go_wp2_with fail;rw[rounds_succ];go_wp2_with fail;refine(follows_any _ _).mono ?_;rintro e w' ⟨rfl,rfl⟩;rw[f2];go_wp2_with fail;rw[rounds_succ];go_wp2_with fail;refine(right_any _ _).mono ?_;rintro e w' ⟨rfl,rfl⟩;rw[hr];go_wp2_with fail;refine(width_any _ _).mono ?_;rintro e w' ⟨rfl,rfl⟩;rw[hx];clear hx;go_wp2_with fail;go_ret3
 exact⟨rfl,hB⟩
theorem nx3_ok (s:ByteArray) (k:Nat) (w:World) (hs:s.size≤9223372036854775807) (hk:k<s.size) (b0:Int) (hb0:(s[k].toNat:Int)=b0) (h0:224≤b0) (h1:b0<240) (hm:k+3≤s.size) (c1 c2:Int) (hc1:byt s (k+1+0)=c1) (lo1:0≤c1) (hi1:c1≤255) (hc2:byt s (k+1+1)=c2) (lo2:0≤c2) (hi2:c2≤255) (f1:followsB c1=true) (f2:followsB c2=true) (hr:rightB (((b0 - 224)*64+c1 % 64)*64+c2 % 64)=true) (hw:wid (((b0 - 224)*64+c1 % 64)*64+c2 % 64)=3):
  Calls prog 218 #[.string s,.int .i64 k] w fun e w'=>e= .returned (.tuple #[.int .i64 (((b0 - 224)*64+c1 % 64)*64+c2 % 64),.int .i64 3,.int .i64 0])∧Below w.heap.size w w':=by
 have hsh:shareI b0=b0 - 224:=by unfold shareI;rw[if_neg (by omega),if_neg (by omega),if_neg (by omega),if_pos (by omega)]
 have hsz:sizeI b0=3:=by unfold sizeI;rw[if_neg (by omega),if_neg (by omega),if_neg (by omega),if_pos (by omega)]
 obtain⟨cap,W,hconv,hB,hcell⟩:=conv_str w s (k+1) (k+3) 2 (by omega) hm;have g1:W.cell? ⟨w.heap.size,0,none⟩=some (.int .u8 c1):=by rw[hcell 0 (by omega),hc1]
 have a1:bits .and .u8 c1 63=c1 % 64:=and63_u8 _ lo1 hi1;have g2:W.cell? ⟨w.heap.size,1,none⟩=some (.int .u8 c2):=by rw[hcell 1 (by omega),hc2]
 have a2:bits .and .u8 c2 63=c2 % 64:=and63_u8 _ lo2 hi2;have o1:bits .or .i64 ((b0 - 224)*64) (c1 % 64)=(b0 - 224)*64+c1 % 64:=or_64 _ _ (by omega) (by omega) (by omega) (by omega);have o2:bits .or .i64 (((b0 - 224)*64+c1 % 64)*64) (c2 % 64)=((b0 - 224)*64+c1 % 64)*64+c2 % 64:=or_64 _ _ (by omega) (by omega) (by omega) (by omega);clear hcell hc1 hc2;go_enter func218,ntmps218;go_wp2_with fail;refine(first_any _ _ (by omega) (by omega)).mono ?_;rintro e w' ⟨rfl,rfl⟩;rw[hsh,hsz];clear hsh hsz;go_wp2_with fail;refine wp_loop_rounds 3 ?_;rw[rounds_succ];go_wp2_with fail;refine(follows_any _ _).mono ?_;rintro e w' ⟨rfl,rfl⟩;rw[f1];go_wp2_with fail;rw[rounds_succ];go_wp2_with fail;refine(follows_any _ _).mono ?_;rintro e w' ⟨rfl,rfl⟩;rw[f2];go_wp2_with fail;rw[rounds_succ];go_wp2_with fail;refine(right_any _ _).mono ?_;rintro e w' ⟨rfl,rfl⟩;rw[hr];go_wp2_with fail;refine(width_any _ _).mono ?_;rintro e w' ⟨rfl,rfl⟩;rw[hw];go_wp2_with fail;go_ret3
 exact⟨rfl,hB⟩
theorem nx4_f1 (s:ByteArray) (k:Nat) (w:World) (hs:s.size≤9223372036854775807) (hk:k<s.size) (b0:Int) (hb0:(s[k].toNat:Int)=b0) (h0:240≤b0) (h1:b0<248) (hm:k+4≤s.size) (c1 c2 c3:Int) (hc1:byt s (k+1+0)=c1) (lo1:0≤c1) (hi1:c1≤255) (hc2:byt s (k+1+1)=c2) (lo2:0≤c2) (hi2:c2≤255) (hc3:byt s (k+1+2)=c3) (lo3:0≤c3) (hi3:c3≤255) (f1:followsB c1=false):
  Calls prog 218 #[.string s,.int .i64 k] w fun e w'=>e= .returned (.tuple #[.int .i64 0,.int .i64 0,.int .i64 1])∧Below w.heap.size w w':=by
 have hsh:shareI b0=b0 - 240:=by unfold shareI;rw[if_neg (by omega),if_neg (by omega),if_pos (by omega)]
 have hsz:sizeI b0=4:=by unfold sizeI;rw[if_neg (by omega),if_neg (by omega),if_pos (by omega)]
 obtain⟨cap,W,hconv,hB,hcell⟩:=conv_str w s (k+1) (k+4) 3 (by omega) hm;have g1:W.cell? ⟨w.heap.size,0,none⟩=some (.int .u8 c1):=by rw[hcell 0 (by omega),hc1]
 have a1:bits .and .u8 c1 63=c1 % 64:=and63_u8 _ lo1 hi1;have g2:W.cell? ⟨w.heap.size,1,none⟩=some (.int .u8 c2):=by rw[hcell 1 (by omega),hc2]
 have a2:bits .and .u8 c2 63=c2 % 64:=and63_u8 _ lo2 hi2;have g3:W.cell? ⟨w.heap.size,2,none⟩=some (.int .u8 c3):=by rw[hcell 2 (by omega),hc3]
 have a3:bits .and .u8 c3 63=c3 % 64:=and63_u8 _ lo3 hi3;have o1:bits .or .i64 ((b0 - 240)*64) (c1 % 64)=(b0 - 240)*64+c1 % 64:=or_64 _ _ (by omega) (by omega) (by omega) (by omega);have o2:bits .or .i64 (((b0 - 240)*64+c1 % 64)*64) (c2 % 64)=((b0 - 240)*64+c1 % 64)*64+c2 % 64:=or_64 _ _ (by omega) (by omega) (by omega) (by omega);have o3:bits .or .i64 ((((b0 - 240)*64+c1 % 64)*64+c2 % 64)*64) (c3 % 64)=(((b0 - 240)*64+c1 % 64)*64+c2 % 64)*64+c3 % 64:=or_64 _ _ (by omega) (by omega) (by omega) (by omega);clear hcell hc1 hc2 hc3;go_enter func218,ntmps218;go_wp2_with fail;refine(first_any _ _ (by omega) (by omega)).mono ?_;rintro e w' ⟨rfl,rfl⟩;rw[hsh,hsz];clear hsh hsz;go_wp2_with fail;refine wp_loop_rounds 4 ?_;rw[rounds_succ];go_wp2_with fail;refine(follows_any _ _).mono ?_;rintro e w' ⟨rfl,rfl⟩;rw[f1];go_wp2_with fail;go_ret3
 exact⟨rfl,hB⟩
theorem nx4_f2 (s:ByteArray) (k:Nat) (w:World) (hs:s.size≤9223372036854775807) (hk:k<s.size) (b0:Int) (hb0:(s[k].toNat:Int)=b0) (h0:240≤b0) (h1:b0<248) (hm:k+4≤s.size) (c1 c2 c3:Int) (hc1:byt s (k+1+0)=c1) (lo1:0≤c1) (hi1:c1≤255) (hc2:byt s (k+1+1)=c2) (lo2:0≤c2) (hi2:c2≤255) (hc3:byt s (k+1+2)=c3) (lo3:0≤c3) (hi3:c3≤255) (f1:followsB c1=true) (f2:followsB c2=false):
  Calls prog 218 #[.string s,.int .i64 k] w fun e w'=>e= .returned (.tuple #[.int .i64 0,.int .i64 0,.int .i64 1])∧Below w.heap.size w w':=by
 have hsh:shareI b0=b0 - 240:=by unfold shareI;rw[if_neg (by omega),if_neg (by omega),if_pos (by omega)]
 have hsz:sizeI b0=4:=by unfold sizeI;rw[if_neg (by omega),if_neg (by omega),if_pos (by omega)]
 obtain⟨cap,W,hconv,hB,hcell⟩:=conv_str w s (k+1) (k+4) 3 (by omega) hm;have g1:W.cell? ⟨w.heap.size,0,none⟩=some (.int .u8 c1):=by rw[hcell 0 (by omega),hc1]
 have a1:bits .and .u8 c1 63=c1 % 64:=and63_u8 _ lo1 hi1;have g2:W.cell? ⟨w.heap.size,1,none⟩=some (.int .u8 c2):=by rw[hcell 1 (by omega),hc2]
 have a2:bits .and .u8 c2 63=c2 % 64:=and63_u8 _ lo2 hi2;have g3:W.cell? ⟨w.heap.size,2,none⟩=some (.int .u8 c3):=by rw[hcell 2 (by omega),hc3]
 have a3:bits .and .u8 c3 63=c3 % 64:=and63_u8 _ lo3 hi3;have o1:bits .or .i64 ((b0 - 240)*64) (c1 % 64)=(b0 - 240)*64+c1 % 64:=or_64 _ _ (by omega) (by omega) (by omega) (by omega);have o2:bits .or .i64 (((b0 - 240)*64+c1 % 64)*64) (c2 % 64)=((b0 - 240)*64+c1 % 64)*64+c2 % 64:=or_64 _ _ (by omega) (by omega) (by omega) (by omega);have o3:bits .or .i64 ((((b0 - 240)*64+c1 % 64)*64+c2 % 64)*64) (c3 % 64)=(((b0 - 240)*64+c1 % 64)*64+c2 % 64)*64+c3 % 64:=or_64 _ _ (by omega) (by omega) (by omega) (by omega);clear hcell hc1 hc2 hc3;go_enter func218,ntmps218;go_wp2_with fail;refine(first_any _ _ (by omega) (by omega)).mono ?_;rintro e w' ⟨rfl,rfl⟩;rw[hsh,hsz];clear hsh hsz;go_wp2_with fail;refine wp_loop_rounds 4 ?_;rw[rounds_succ];go_wp2_with fail;refine(follows_any _ _).mono ?_;rintro e w' ⟨rfl,rfl⟩;rw[f1];go_wp2_with fail;rw[rounds_succ];go_wp2_with fail;refine(follows_any _ _).mono ?_;rintro e w' ⟨rfl,rfl⟩;rw[f2];go_wp2_with fail;go_ret3
 exact⟨rfl,hB⟩
theorem nx4_f3 (s:ByteArray) (k:Nat) (w:World) (hs:s.size≤9223372036854775807) (hk:k<s.size) (b0:Int) (hb0:(s[k].toNat:Int)=b0) (h0:240≤b0) (h1:b0<248) (hm:k+4≤s.size) (c1 c2 c3:Int) (hc1:byt s (k+1+0)=c1) (lo1:0≤c1) (hi1:c1≤255) (hc2:byt s (k+1+1)=c2) (lo2:0≤c2) (hi2:c2≤255) (hc3:byt s (k+1+2)=c3) (lo3:0≤c3) (hi3:c3≤255) (f1:followsB c1=true) (f2:followsB c2=true) (f3:followsB c3=false):
  Calls prog 218 #[.string s,.int .i64 k] w fun e w'=>e= .returned (.tuple #[.int .i64 0,.int .i64 0,.int .i64 1])∧Below w.heap.size w w':=by
 have hsh:shareI b0=b0 - 240:=by unfold shareI;rw[if_neg (by omega),if_neg (by omega),if_pos (by omega)]
 have hsz:sizeI b0=4:=by unfold sizeI;rw[if_neg (by omega),if_neg (by omega),if_pos (by omega)]
 obtain⟨cap,W,hconv,hB,hcell⟩:=conv_str w s (k+1) (k+4) 3 (by omega) hm;have g1:W.cell? ⟨w.heap.size,0,none⟩=some (.int .u8 c1):=by rw[hcell 0 (by omega),hc1]
 have a1:bits .and .u8 c1 63=c1 % 64:=and63_u8 _ lo1 hi1;have g2:W.cell? ⟨w.heap.size,1,none⟩=some (.int .u8 c2):=by rw[hcell 1 (by omega),hc2]
 have a2:bits .and .u8 c2 63=c2 % 64:=and63_u8 _ lo2 hi2;have g3:W.cell? ⟨w.heap.size,2,none⟩=some (.int .u8 c3):=by rw[hcell 2 (by omega),hc3]
 have a3:bits .and .u8 c3 63=c3 % 64:=and63_u8 _ lo3 hi3;have o1:bits .or .i64 ((b0 - 240)*64) (c1 % 64)=(b0 - 240)*64+c1 % 64:=or_64 _ _ (by omega) (by omega) (by omega) (by omega);have o2:bits .or .i64 (((b0 - 240)*64+c1 % 64)*64) (c2 % 64)=((b0 - 240)*64+c1 % 64)*64+c2 % 64:=or_64 _ _ (by omega) (by omega) (by omega) (by omega);have o3:bits .or .i64 ((((b0 - 240)*64+c1 % 64)*64+c2 % 64)*64) (c3 % 64)=(((b0 - 240)*64+c1 % 64)*64+c2 % 64)*64+c3 % 64:=or_64 _ _ (by omega) (by omega) (by omega) (by omega);clear hcell hc1 hc2 hc3;go_enter func218,ntmps218;go_wp2_with fail;refine(first_any _ _ (by omega) (by omega)).mono ?_;rintro e w' ⟨rfl,rfl⟩;rw[hsh,hsz];clear hsh hsz;go_wp2_with fail;refine wp_loop_rounds 4 ?_;rw[rounds_succ];go_wp2_with fail;refine(follows_any _ _).mono ?_;rintro e w' ⟨rfl,rfl⟩;rw[f1];go_wp2_with fail;rw[rounds_succ];go_wp2_with fail;refine(follows_any _ _).mono ?_;rintro e w' ⟨rfl,rfl⟩;rw[f2];go_wp2_with fail;rw[rounds_succ];go_wp2_with fail;refine(follows_any _ _).mono ?_;rintro e w' ⟨rfl,rfl⟩;rw[f3];go_wp2_with fail;go_ret3
 exact⟨rfl,hB⟩
theorem nx4_r (s:ByteArray) (k:Nat) (w:World) (hs:s.size≤9223372036854775807) (hk:k<s.size) (b0:Int) (hb0:(s[k].toNat:Int)=b0) (h0:240≤b0) (h1:b0<248) (hm:k+4≤s.size) (c1 c2 c3:Int) (hc1:byt s (k+1+0)=c1) (lo1:0≤c1) (hi1:c1≤255) (hc2:byt s (k+1+1)=c2) (lo2:0≤c2) (hi2:c2≤255) (hc3:byt s (k+1+2)=c3) (lo3:0≤c3) (hi3:c3≤255) (f1:followsB c1=true) (f2:followsB c2=true) (f3:followsB c3=true) (hr:rightB ((((b0 - 240)*64+c1 % 64)*64+c2 % 64)*64+c3 % 64)=false):
  Calls prog 218 #[.string s,.int .i64 k] w fun e w'=>e= .returned (.tuple #[.int .i64 0,.int .i64 0,.int .i64 1])∧Below w.heap.size w w':=by
 have hsh:shareI b0=b0 - 240:=by unfold shareI;rw[if_neg (by omega),if_neg (by omega),if_pos (by omega)]
 have hsz:sizeI b0=4:=by unfold sizeI;rw[if_neg (by omega),if_neg (by omega),if_pos (by omega)]
 obtain⟨cap,W,hconv,hB,hcell⟩:=conv_str w s (k+1) (k+4) 3 (by omega) hm;have g1:W.cell? ⟨w.heap.size,0,none⟩=some (.int .u8 c1):=by rw[hcell 0 (by omega),hc1]
 have a1:bits .and .u8 c1 63=c1 % 64:=and63_u8 _ lo1 hi1;have g2:W.cell? ⟨w.heap.size,1,none⟩=some (.int .u8 c2):=by rw[hcell 1 (by omega),hc2]
 have a2:bits .and .u8 c2 63=c2 % 64:=and63_u8 _ lo2 hi2;have g3:W.cell? ⟨w.heap.size,2,none⟩=some (.int .u8 c3):=by rw[hcell 2 (by omega),hc3]
 have a3:bits .and .u8 c3 63=c3 % 64:=and63_u8 _ lo3 hi3;have o1:bits .or .i64 ((b0 - 240)*64) (c1 % 64)=(b0 - 240)*64+c1 % 64:=or_64 _ _ (by omega) (by omega) (by omega) (by omega);have o2:bits .or .i64 (((b0 - 240)*64+c1 % 64)*64) (c2 % 64)=((b0 - 240)*64+c1 % 64)*64+c2 % 64:=or_64 _ _ (by omega) (by omega) (by omega) (by omega);have o3:bits .or .i64 ((((b0 - 240)*64+c1 % 64)*64+c2 % 64)*64) (c3 % 64)=(((b0 - 240)*64+c1 % 64)*64+c2 % 64)*64+c3 % 64:=or_64 _ _ (by omega) (by omega) (by omega) (by omega);clear hcell hc1 hc2 hc3;go_enter func218,ntmps218;go_wp2_with fail;refine(first_any _ _ (by omega) (by omega)).mono ?_;rintro e w' ⟨rfl,rfl⟩;rw[hsh,hsz];clear hsh hsz;go_wp2_with fail;refine wp_loop_rounds 4 ?_;rw[rounds_succ];go_wp2_with fail;refine(follows_any _ _).mono ?_;rintro e w' ⟨rfl,rfl⟩;rw[f1];go_wp2_with fail;rw[rounds_succ];go_wp2_with fail;refine(follows_any _ _).mono ?_;rintro e w' ⟨rfl,rfl⟩;rw[f2];go_wp2_with fail;rw[rounds_succ];go_wp2_with fail;refine(follows_any _ _).mono ?_;rintro e w' ⟨rfl,rfl⟩;rw[f3];go_wp2_with fail;rw[rounds_succ];go_wp2_with fail;refine(right_any _ _).mono ?_;rintro e w' ⟨rfl,rfl⟩;rw[hr];go_wp2_with fail;go_ret3
 exact⟨rfl,hB⟩
theorem nx4_w (s:ByteArray) (k:Nat) (w:World) (hs:s.size≤9223372036854775807) (hk:k<s.size) (b0:Int) (hb0:(s[k].toNat:Int)=b0) (h0:240≤b0) (h1:b0<248) (hm:k+4≤s.size) (c1 c2 c3:Int) (hc1:byt s (k+1+0)=c1) (lo1:0≤c1) (hi1:c1≤255) (hc2:byt s (k+1+1)=c2) (lo2:0≤c2) (hi2:c2≤255) (hc3:byt s (k+1+2)=c3) (lo3:0≤c3) (hi3:c3≤255) (f1:followsB c1=true) (f2:followsB c2=true) (f3:followsB c3=true) (hr:rightB ((((b0 - 240)*64+c1 % 64)*64+c2 % 64)*64+c3 % 64)=true) (hw:wid ((((b0 - 240)*64+c1 % 64)*64+c2 % 64)*64+c3 % 64)≠4):
  Calls prog 218 #[.string s,.int .i64 k] w fun e w'=>e= .returned (.tuple #[.int .i64 0,.int .i64 0,.int .i64 1])∧Below w.heap.size w w':=by
 obtain⟨x,hx⟩:∃x:Nat,wid ((((b0 - 240)*64+c1 % 64)*64+c2 % 64)*64+c3 % 64)=x:=⟨_,rfl⟩;rw[hx]at hw;have hne:((x:Int)==4)=false:=by simp;omega
 have hsh:shareI b0=b0 - 240:=by unfold shareI;rw[if_neg (by omega),if_neg (by omega),if_pos (by omega)]
 have hsz:sizeI b0=4:=by unfold sizeI;rw[if_neg (by omega),if_neg (by omega),if_pos (by omega)]
 obtain⟨cap,W,hconv,hB,hcell⟩:=conv_str w s (k+1) (k+4) 3 (by omega) hm;have g1:W.cell? ⟨w.heap.size,0,none⟩=some (.int .u8 c1):=by rw[hcell 0 (by omega),hc1]
 have a1:bits .and .u8 c1 63=c1 % 64:=and63_u8 _ lo1 hi1;have g2:W.cell? ⟨w.heap.size,1,none⟩=some (.int .u8 c2):=by rw[hcell 1 (by omega),hc2]
 have a2:bits .and .u8 c2 63=c2 % 64:=and63_u8 _ lo2 hi2;have g3:W.cell? ⟨w.heap.size,2,none⟩=some (.int .u8 c3):=by rw[hcell 2 (by omega),hc3]
 have a3:bits .and .u8 c3 63=c3 % 64:=and63_u8 _ lo3 hi3;have o1:bits .or .i64 ((b0 - 240)*64) (c1 % 64)=(b0 - 240)*64+c1 % 64:=or_64 _ _ (by omega) (by omega) (by omega) (by omega);have o2:bits .or .i64 (((b0 - 240)*64+c1 % 64)*64) (c2 % 64)=((b0 - 240)*64+c1 % 64)*64+c2 % 64:=or_64 _ _ (by omega) (by omega) (by omega) (by omega);have o3:bits .or .i64 ((((b0 - 240)*64+c1 % 64)*64+c2 % 64)*64) (c3 % 64)=(((b0 - 240)*64+c1 % 64)*64+c2 % 64)*64+c3 % 64:=or_64 _ _ (by omega) (by omega) (by omega) (by omega);clear hcell hc1 hc2 hc3;go_enter func218,ntmps218;go_wp2_with fail;refine(first_any _ _ (by omega) (by omega)).mono ?_;rintro e w' ⟨rfl,rfl⟩;rw[hsh,hsz];clear hsh hsz;go_wp2_with fail;refine wp_loop_rounds 4 ?_;rw[rounds_succ];go_wp2_with fail;refine(follows_any _ _).mono ?_;rintro e w' ⟨rfl,rfl⟩;rw[f1];go_wp2_with fail;rw[rounds_succ];go_wp2_with fail;refine(follows_any _ _).mono ?_;rintro e w' ⟨rfl,rfl⟩;rw[f2];go_wp2_with fail;rw[rounds_succ];go_wp2_with fail;refine(follows_any _ _).mono ?_;rintro e w' ⟨rfl,rfl⟩;rw[f3];go_wp2_with fail;rw[rounds_succ];go_wp2_with fail;refine(right_any _ _).mono ?_;rintro e w' ⟨rfl,rfl⟩;rw[hr];go_wp2_with fail;refine(width_any _ _).mono ?_;rintro e w' ⟨rfl,rfl⟩;rw[hx];clear hx;go_wp2_with fail;go_ret3
 exact⟨rfl,hB⟩
theorem nx4_ok (s:ByteArray) (k:Nat) (w:World) (hs:s.size≤9223372036854775807) (hk:k<s.size) (b0:Int) (hb0:(s[k].toNat:Int)=b0) (h0:240≤b0) (h1:b0<248) (hm:k+4≤s.size) (c1 c2 c3:Int) (hc1:byt s (k+1+0)=c1) (lo1:0≤c1) (hi1:c1≤255) (hc2:byt s (k+1+1)=c2) (lo2:0≤c2) (hi2:c2≤255) (hc3:byt s (k+1+2)=c3) (lo3:0≤c3) (hi3:c3≤255) (f1:followsB c1=true) (f2:followsB c2=true) (f3:followsB c3=true) (hr:rightB ((((b0 - 240)*64+c1 % 64)*64+c2 % 64)*64+c3 % 64)=true) (hw:wid ((((b0 - 240)*64+c1 % 64)*64+c2 % 64)*64+c3 % 64)=4):
  Calls prog 218 #[.string s,.int .i64 k] w fun e w'=>e= .returned (.tuple #[.int .i64 ((((b0 - 240)*64+c1 % 64)*64+c2 % 64)*64+c3 % 64),.int .i64 4,.int .i64 0])∧Below w.heap.size w w':=by
 have hsh:shareI b0=b0 - 240:=by unfold shareI;rw[if_neg (by omega),if_neg (by omega),if_pos (by omega)]
 have hsz:sizeI b0=4:=by unfold sizeI;rw[if_neg (by omega),if_neg (by omega),if_pos (by omega)]
 obtain⟨cap,W,hconv,hB,hcell⟩:=conv_str w s (k+1) (k+4) 3 (by omega) hm;have g1:W.cell? ⟨w.heap.size,0,none⟩=some (.int .u8 c1):=by rw[hcell 0 (by omega),hc1]
 have a1:bits .and .u8 c1 63=c1 % 64:=and63_u8 _ lo1 hi1;have g2:W.cell? ⟨w.heap.size,1,none⟩=some (.int .u8 c2):=by rw[hcell 1 (by omega),hc2]
 have a2:bits .and .u8 c2 63=c2 % 64:=and63_u8 _ lo2 hi2;have g3:W.cell? ⟨w.heap.size,2,none⟩=some (.int .u8 c3):=by rw[hcell 2 (by omega),hc3]
 have a3:bits .and .u8 c3 63=c3 % 64:=and63_u8 _ lo3 hi3;have o1:bits .or .i64 ((b0 - 240)*64) (c1 % 64)=(b0 - 240)*64+c1 % 64:=or_64 _ _ (by omega) (by omega) (by omega) (by omega);have o2:bits .or .i64 (((b0 - 240)*64+c1 % 64)*64) (c2 % 64)=((b0 - 240)*64+c1 % 64)*64+c2 % 64:=or_64 _ _ (by omega) (by omega) (by omega) (by omega);have o3:bits .or .i64 ((((b0 - 240)*64+c1 % 64)*64+c2 % 64)*64) (c3 % 64)=(((b0 - 240)*64+c1 % 64)*64+c2 % 64)*64+c3 % 64:=or_64 _ _ (by omega) (by omega) (by omega) (by omega);clear hcell hc1 hc2 hc3;go_enter func218,ntmps218;go_wp2_with fail;refine(first_any _ _ (by omega) (by omega)).mono ?_;rintro e w' ⟨rfl,rfl⟩;rw[hsh,hsz];clear hsh hsz;go_wp2_with fail;refine wp_loop_rounds 4 ?_;rw[rounds_succ];go_wp2_with fail;refine(follows_any _ _).mono ?_;rintro e w' ⟨rfl,rfl⟩;rw[f1];go_wp2_with fail;rw[rounds_succ];go_wp2_with fail;refine(follows_any _ _).mono ?_;rintro e w' ⟨rfl,rfl⟩;rw[f2];go_wp2_with fail;rw[rounds_succ];go_wp2_with fail;refine(follows_any _ _).mono ?_;rintro e w' ⟨rfl,rfl⟩;rw[f3];go_wp2_with fail;rw[rounds_succ];go_wp2_with fail;refine(right_any _ _).mono ?_;rintro e w' ⟨rfl,rfl⟩;rw[hr];go_wp2_with fail;refine(width_any _ _).mono ?_;rintro e w' ⟨rfl,rfl⟩;rw[hw];go_wp2_with fail;go_ret3
 exact⟨rfl,hB⟩
def nextV:Option Int→Value
 | none=> .tuple #[.int .i64 0,.int .i64 0,.int .i64 1]
 | some n=> .tuple #[.int .i64 n,.int .i64 (wid n),.int .i64 0]
theorem nextV_some (n:Int):nextV (some n)= .tuple #[.int .i64 n,.int .i64 (wid n),.int .i64 0]:=rfl
theorem dec4_cons (b c1 c2 c3:Int) (t:List Int):dec4 b (c1::c2::c3::t)=if followsB c1 && (followsB c2 && (followsB c3 && okB 4 ((((b - 240)*64+c1 % 64)*64+c2 % 64)*64+c3 % 64)))then some ((((b - 240)*64+c1 % 64)*64+c2 % 64)*64+c3 % 64)else none:=rfl
theorem dec3_cons (b c1 c2:Int) (t:List Int):dec3 b (c1::c2::t)=if followsB c1 && (followsB c2 && okB 3 (((b - 224)*64+c1 % 64)*64+c2 % 64))then some (((b - 224)*64+c1 % 64)*64+c2 % 64)else none:=rfl
theorem dec2_cons (b c1:Int) (t:List Int):dec2 b (c1::t)=if followsB c1 && okB 2 ((b - 192)*64+c1 % 64)then some ((b - 192)*64+c1 % 64)else none:=rfl
theorem next_any (s:ByteArray) (k:Nat) (w:World) (hs:s.size≤9223372036854775807) (hk:k<s.size):
  Calls prog 218 #[.string s,.int .i64 k] w fun e w'=>e= .returned (nextV (dec ((bytesL s).drop k)))∧Below w.heap.size w w':=by
 have hb0:=byt_eq s k hk;have lo:=byt_lo s k;have hi:=byt_hi s k;rw[drop_byt s k hk];generalize byt s k=b0 at*
 by_cases c1:b0<128
 ·rw[dec_1 c1];rw[nextV_some,wid_1 (show b0≤127 by omega)];exact nx1_ok s k w hs hk b0 hb0 lo c1
 by_cases c2:b0<192∨248≤b0
 ·rw[dec_0 (by omega)];exact nx_0 s k w hs hk b0 hb0 lo hi (by omega)
 by_cases d4:240≤b0
 ·rw[dec_4 d4 (by omega)];by_cases hm:k+4≤s.size
  ·rw[drop_byt s (k+1) (by omega),drop_byt s (k+1+1) (by omega),drop_byt s (k+1+1+1) (by omega)];obtain⟨x1,e1⟩:∃x,byt s (k+1+0)=x:=⟨_,rfl⟩;have l1:0≤x1:=e1 ▸ byt_lo s _;have h1:x1≤255:=e1 ▸ byt_hi s _;obtain⟨x2,e2⟩:∃x,byt s (k+1+1)=x:=⟨_,rfl⟩;have l2:0≤x2:=e2 ▸ byt_lo s _;have h2:x2≤255:=e2 ▸ byt_hi s _;obtain⟨x3,e3⟩:∃x,byt s (k+1+2)=x:=⟨_,rfl⟩;have l3:0≤x3:=e3 ▸ byt_lo s _;have h3:x3≤255:=e3 ▸ byt_hi s _;rw[show byt s (k+1)=x1 from e1,show byt s (k+1+1)=x2 from e2,show byt s (k+1+1+1)=x3 from e3];cases f1:followsB x1 with
   | false=>
    have hc: ¬ (followsB x1 && (followsB x2 && (followsB x3 && okB 4 ((((b0 - 240)*64+x1 % 64)*64+x2 % 64)*64+x3 % 64))))=true:=by simp[f1]
    rw[dec4_cons,if_neg hc];exact nx4_f1 s k w hs hk b0 hb0 d4 (by omega) hm x1 x2 x3 e1 l1 h1 e2 l2 h2 e3 l3 h3 f1
   | true=>
    cases f2:followsB x2 with
    | false=>
     have hc: ¬ (followsB x1 && (followsB x2 && (followsB x3 && okB 4 ((((b0 - 240)*64+x1 % 64)*64+x2 % 64)*64+x3 % 64))))=true:=by simp[f1,f2]
     rw[dec4_cons,if_neg hc];exact nx4_f2 s k w hs hk b0 hb0 d4 (by omega) hm x1 x2 x3 e1 l1 h1 e2 l2 h2 e3 l3 h3 f1 f2
    | true=>
     cases f3:followsB x3 with
     | false=>
      have hc: ¬ (followsB x1 && (followsB x2 && (followsB x3 && okB 4 ((((b0 - 240)*64+x1 % 64)*64+x2 % 64)*64+x3 % 64))))=true:=by simp[f1,f2,f3]
      rw[dec4_cons,if_neg hc];exact nx4_f3 s k w hs hk b0 hb0 d4 (by omega) hm x1 x2 x3 e1 l1 h1 e2 l2 h2 e3 l3 h3 f1 f2 f3
     | true=>
      cases hr:rightB ((((b0 - 240)*64+x1 % 64)*64+x2 % 64)*64+x3 % 64)with
      | false=>
       have hc: ¬ (followsB x1 && (followsB x2 && (followsB x3 && okB 4 ((((b0 - 240)*64+x1 % 64)*64+x2 % 64)*64+x3 % 64))))=true:=by simp[okB,hr]
       rw[dec4_cons,if_neg hc];exact nx4_r s k w hs hk b0 hb0 d4 (by omega) hm x1 x2 x3 e1 l1 h1 e2 l2 h2 e3 l3 h3 f1 f2 f3 hr
      | true=>
       by_cases hw:wid ((((b0 - 240)*64+x1 % 64)*64+x2 % 64)*64+x3 % 64)=4
       ·have hc:(followsB x1 && (followsB x2 && (followsB x3 && okB 4 ((((b0 - 240)*64+x1 % 64)*64+x2 % 64)*64+x3 % 64))))=true:=by simp[f1,f2,f3,okB,hr,hw]
        rw[dec4_cons,if_pos hc];rw[nextV_some,hw];exact nx4_ok s k w hs hk b0 hb0 d4 (by omega) hm x1 x2 x3 e1 l1 h1 e2 l2 h2 e3 l3 h3 f1 f2 f3 hr hw
       ·have hc: ¬ (followsB x1 && (followsB x2 && (followsB x3 && okB 4 ((((b0 - 240)*64+x1 % 64)*64+x2 % 64)*64+x3 % 64))))=true:=by simp[okB,hw]
        rw[dec4_cons,if_neg hc];exact nx4_w s k w hs hk b0 hb0 d4 (by omega) hm x1 x2 x3 e1 l1 h1 e2 l2 h2 e3 l3 h3 f1 f2 f3 hr hw
  ·have e:dec4 b0 ((bytesL s).drop (k+1))=none:=by
    have hl:((bytesL s).drop (k+1)).length<3:=by rw[List.length_drop,bytesL_length];omega
    match (bytesL s).drop (k+1),hl with
    | [],_=>rfl
    | [_],_=>rfl
    | [_,_],_=>rfl
   rw[e];exact nx4_short s k w hs hk b0 hb0 d4 (by omega) (by omega)
 by_cases d3:224≤b0
 ·rw[dec_3 d3 (by omega)];by_cases hm:k+3≤s.size
  ·rw[drop_byt s (k+1) (by omega),drop_byt s (k+1+1) (by omega)];obtain⟨x1,e1⟩:∃x,byt s (k+1+0)=x:=⟨_,rfl⟩;have l1:0≤x1:=e1 ▸ byt_lo s _;have h1:x1≤255:=e1 ▸ byt_hi s _;obtain⟨x2,e2⟩:∃x,byt s (k+1+1)=x:=⟨_,rfl⟩;have l2:0≤x2:=e2 ▸ byt_lo s _;have h2:x2≤255:=e2 ▸ byt_hi s _;rw[show byt s (k+1)=x1 from e1,show byt s (k+1+1)=x2 from e2];cases f1:followsB x1 with
   | false=>
    have hc: ¬ (followsB x1 && (followsB x2 && okB 3 (((b0 - 224)*64+x1 % 64)*64+x2 % 64)))=true:=by simp[f1]
    rw[dec3_cons,if_neg hc];exact nx3_f1 s k w hs hk b0 hb0 d3 (by omega) hm x1 x2 e1 l1 h1 e2 l2 h2 f1
   | true=>
    cases f2:followsB x2 with
    | false=>
     have hc: ¬ (followsB x1 && (followsB x2 && okB 3 (((b0 - 224)*64+x1 % 64)*64+x2 % 64)))=true:=by simp[f1,f2]
     rw[dec3_cons,if_neg hc];exact nx3_f2 s k w hs hk b0 hb0 d3 (by omega) hm x1 x2 e1 l1 h1 e2 l2 h2 f1 f2
    | true=>
     cases hr:rightB (((b0 - 224)*64+x1 % 64)*64+x2 % 64)with
     | false=>
      have hc: ¬ (followsB x1 && (followsB x2 && okB 3 (((b0 - 224)*64+x1 % 64)*64+x2 % 64)))=true:=by simp[okB,hr]
      rw[dec3_cons,if_neg hc];exact nx3_r s k w hs hk b0 hb0 d3 (by omega) hm x1 x2 e1 l1 h1 e2 l2 h2 f1 f2 hr
     | true=>
      by_cases hw:wid (((b0 - 224)*64+x1 % 64)*64+x2 % 64)=3
      ·have hc:(followsB x1 && (followsB x2 && okB 3 (((b0 - 224)*64+x1 % 64)*64+x2 % 64)))=true:=by simp[f1,f2,okB,hr,hw]
       rw[dec3_cons,if_pos hc];rw[nextV_some,hw];exact nx3_ok s k w hs hk b0 hb0 d3 (by omega) hm x1 x2 e1 l1 h1 e2 l2 h2 f1 f2 hr hw
      ·have hc: ¬ (followsB x1 && (followsB x2 && okB 3 (((b0 - 224)*64+x1 % 64)*64+x2 % 64)))=true:=by simp[okB,hw]
       rw[dec3_cons,if_neg hc];exact nx3_w s k w hs hk b0 hb0 d3 (by omega) hm x1 x2 e1 l1 h1 e2 l2 h2 f1 f2 hr hw
  ·have e:dec3 b0 ((bytesL s).drop (k+1))=none:=by
    have hl:((bytesL s).drop (k+1)).length<2:=by rw[List.length_drop,bytesL_length];omega
    match (bytesL s).drop (k+1),hl with
    | [],_=>rfl
    | [_],_=>rfl
   rw[e];exact nx3_short s k w hs hk b0 hb0 d3 (by omega) (by omega)
 by_cases d2:192≤b0
 ·rw[dec_2 d2 (by omega)];by_cases hm:k+2≤s.size
  ·rw[drop_byt s (k+1) (by omega)];obtain⟨x1,e1⟩:∃x,byt s (k+1+0)=x:=⟨_,rfl⟩;have l1:0≤x1:=e1 ▸ byt_lo s _;have h1:x1≤255:=e1 ▸ byt_hi s _;rw[show byt s (k+1)=x1 from e1];cases f1:followsB x1 with
   | false=>
    have hc: ¬ (followsB x1 && okB 2 ((b0 - 192)*64+x1 % 64))=true:=by simp[f1]
    rw[dec2_cons,if_neg hc];exact nx2_f1 s k w hs hk b0 hb0 d2 (by omega) hm x1 e1 l1 h1 f1
   | true=>
    cases hr:rightB ((b0 - 192)*64+x1 % 64)with
    | false=>
     have hc: ¬ (followsB x1 && okB 2 ((b0 - 192)*64+x1 % 64))=true:=by simp[okB,hr]
     rw[dec2_cons,if_neg hc];exact nx2_r s k w hs hk b0 hb0 d2 (by omega) hm x1 e1 l1 h1 f1 hr
    | true=>
     by_cases hw:wid ((b0 - 192)*64+x1 % 64)=2
     ·have hc:(followsB x1 && okB 2 ((b0 - 192)*64+x1 % 64))=true:=by simp[f1,okB,hr,hw]
      rw[dec2_cons,if_pos hc];rw[nextV_some,hw];exact nx2_ok s k w hs hk b0 hb0 d2 (by omega) hm x1 e1 l1 h1 f1 hr hw
     ·have hc: ¬ (followsB x1 && okB 2 ((b0 - 192)*64+x1 % 64))=true:=by simp[okB,hw]
      rw[dec2_cons,if_neg hc];exact nx2_w s k w hs hk b0 hb0 d2 (by omega) hm x1 e1 l1 h1 f1 hr hw
  ·have e:dec2 b0 ((bytesL s).drop (k+1))=none:=by
    have hl:((bytesL s).drop (k+1)).length<1:=by rw[List.length_drop,bytesL_length];omega
    match (bytesL s).drop (k+1),hl with
    | [],_=>rfl
   rw[e];exact nx2_short s k w hs hk b0 hb0 d2 (by omega) (by omega)
 omega
theorem wid_pos (n:Int):1≤wid n∧wid n≤4:=by unfold wid;(repeat' split)<;>omega
theorem grown_of_below {w w':World} (hb:Below w.heap.size w w'):w.grownBy w' none:=⟨hb.os,hb.tape,hb.output,hb.size,fun k hk _=>hb.block k hk⟩
theorem own_below {w w':World} {base:Nat} {e:TypeId} {size:Nat} {v:Value} {n:Nat} {xs:List Value} (h:w.ownsRow base e size v n xs) (hb:Below w.heap.size w w'):w'.ownsRow base e size v n xs:=
 h.kept (grown_of_below hb) (by cases hv:v.ownBlock<;>simp)
theorem hide {p:Prop} (h:p):Hid p:=h
theorem info3:(prog.info? 3).map (fun i=>(i.zero,i.size,i.bytes))=some (some (.int .i64 0),1,8):=by kernel_rfl
theorem all_ok (s:ByteArray) (ns:List Int) (w:World) (hs:s.size≤65535) (hp:Parse (bytesL s) ns []):
    Calls prog 202 #[.string s] w fun e w'=>∃v,e= .returned (.tuple #[v,.int .i64 s.size,.int .i64 0])∧w'.ownsRow w.heap.size 3 1 v ns.length (ns.map (Value.int .i64))∧Below w.heap.size w w':=by
  obtain⟨i0,hi,hz0,hz1,hz2⟩:=info_parts info3;have hlen:s.size=(encAll ns).length:=by have:=parse_length hp;rw[bytesL_length]at this;simpa using this
  have hll:ns.length≤s.size:=by rw[hlen];exact length_encAll ns
  have hle:(encAll ns).length≤s.size:=by omega
  have HL:=hide hlen;clear hlen;have hd:decide ((65535:Int)<(s.size:Int))=false:=decide_eq_false (by omega);go_enter func202,ntmps202;go_wp2_with fail;go_loopw [5,6] (fun v a wr=>∃j:Nat,j≤ns.length∧a= .int .i64 (offs ns j)∧wr.ownsRow w.heap.size 3 1 v j ((ns.take j).map (Value.int .i64))∧Below w.heap.size w wr)
    (fun _ a _=>s.size - (intOf a).toNat)
  case atStart=>exact⟨0,Nat.zero_le _,by rw[offs_0];rfl,World.ownsRow_nil _ _ _ _,Below.refl _ _⟩
  case round=>
    obtain⟨j,hj,rfl,hown,hB⟩:=hrel;have hsz:=hB.size;by_cases hlt:j<ns.length
    · have h1:=offs_lt hlt;have h2:=hide (offs_succ ns j hlt);have h3:=hide (dec_at hp hlt);have h4:=hide (take_snocI hlt);have hw:=wid_pos (ns.getD j 0);obtain⟨n,hn⟩:∃n,ns.getD j 0=n:=⟨_,rfl⟩;rw[hn]at h1 h2 h3 h4 hw;have HN:=hide hn;clear hn;have hk:offs ns j<s.size:=by omega
      obtain⟨q,hq⟩:∃q,offs ns j=q:=⟨_,rfl⟩;rw[hq]at h1 h2 h3 hk⊢;clear hq;go_wp2_with fail;refine(next_any s q _ (by omega) hk).mono ?_;rintro e w1 ⟨rfl,hb1⟩;rw[h3.out,nextV_some];have hb2:=hB.trans (hb1.mono hsz);have hsz1:=hb2.size;have hown1:=own_below hown hb1;clear hown;go_wp2_with (at_builtin;refine wpList_append_own _ rfl _ _ 41 rfl w.heap.size 3 i0 (.int .i64 0) 1 8 Tryz.underlying41 hi hz0 hz1 hz2 rfl (by decide) _ _ _ rfl (hown1.alloc _) ⟨w1.heap.size,0,none⟩ 1 1 [.int .i64 n] rfl rfl ?c1 ?c2 ?c3 ?c4 ?c5 ?_)
      case c1=>exact cell_one_at _ _ _ _ (by simp)
      case c2=>exact one_cell _
      case c3=>unfold maxLen;omega
      case c4=>omega
      case c5=>simp;omega
      intro v2 w2 hown2 hg2 _;have hB2:=below_append (hb2.alloc hsz1 _) (hown1.alloc _) hg2 (by simp;omega);clear hg2 hown1;go_wp2_with fail;go_roundw
      case rel=>
        refine⟨j+1,by omega, ?_, ?_,hB2⟩
        · rw[h2.out];go_num
        · rw[h4.out,List.map_append,List.map_take];exact hown2
      case measure=>simp[intOf];omega
    · have hjn:j=ns.length:=by omega
      subst hjn;have hend:offs ns ns.length=s.size:=by rw[offs_all];exact HL.out.symm
      rw[hend];rw[List.take_length]at hown;clear hend;go_wp2_with fail;go_ret3
      exact⟨_,rfl,hown,hB⟩
theorem all_err (s:ByteArray) (ns r:List Int) (w:World) (hs:s.size≤65535) (hp:Parse (bytesL s) ns r) (hr:r≠[]):
    Calls prog 202 #[.string s] w fun e w'=>e= .returned (.tuple #[.slice none 0 0,.int .i64 (encAll ns).length,.int .i64 1])∧Below w.heap.size w w':=by
  obtain⟨i0,hi,hz0,hz1,hz2⟩:=info_parts info3;have hlen:s.size=(encAll ns).length+r.length:=by have:=parse_length hp;rwa [bytesL_length]at this
  have hrl:0<r.length:=List.length_pos_iff.2 hr;have hll:ns.length≤s.size:=by rw[hlen];have:=length_encAll ns;omega
  have hle:(encAll ns).length<s.size:=by omega
  have HL:=hide hlen;clear hlen;have hd:decide ((65535:Int)<(s.size:Int))=false:=decide_eq_false (by omega);go_enter func202,ntmps202;go_wp2_with fail;go_loopw [5,6] (fun v a wr=>∃j:Nat,j≤ns.length∧a= .int .i64 (offs ns j)∧wr.ownsRow w.heap.size 3 1 v j ((ns.take j).map (Value.int .i64))∧Below w.heap.size w wr)
    (fun _ a _=>s.size - (intOf a).toNat)
  case atStart=>exact⟨0,Nat.zero_le _,by rw[offs_0];rfl,World.ownsRow_nil _ _ _ _,Below.refl _ _⟩
  case round=>
    obtain⟨j,hj,rfl,hown,hB⟩:=hrel;have hsz:=hB.size;by_cases hlt:j<ns.length
    · have h1:=offs_lt hlt;have h2:=hide (offs_succ ns j hlt);have h3:=hide (dec_at hp hlt);have h4:=hide (take_snocI hlt);have hw:=wid_pos (ns.getD j 0);obtain⟨n,hn⟩:∃n,ns.getD j 0=n:=⟨_,rfl⟩;rw[hn]at h1 h2 h3 h4 hw;have HN:=hide hn;clear hn;have hk:offs ns j<s.size:=by omega
      obtain⟨q,hq⟩:∃q,offs ns j=q:=⟨_,rfl⟩;rw[hq]at h1 h2 h3 hk⊢;clear hq;go_wp2_with fail;refine(next_any s q _ (by omega) hk).mono ?_;rintro e w1 ⟨rfl,hb1⟩;rw[h3.out,nextV_some];have hb2:=hB.trans (hb1.mono hsz);have hsz1:=hb2.size;have hown1:=own_below hown hb1;clear hown;go_wp2_with (at_builtin;refine wpList_append_own _ rfl _ _ 41 rfl w.heap.size 3 i0 (.int .i64 0) 1 8 Tryz.underlying41 hi hz0 hz1 hz2 rfl (by decide) _ _ _ rfl (hown1.alloc _) ⟨w1.heap.size,0,none⟩ 1 1 [.int .i64 n] rfl rfl ?c1 ?c2 ?c3 ?c4 ?c5 ?_)
      case c1=>exact cell_one_at _ _ _ _ (by simp)
      case c2=>exact one_cell _
      case c3=>unfold maxLen;omega
      case c4=>omega
      case c5=>simp;omega
      intro v2 w2 hown2 hg2 _;have hB2:=below_append (hb2.alloc hsz1 _) (hown1.alloc _) hg2 (by simp;omega);clear hg2 hown1;go_wp2_with fail;go_roundw
      case rel=>
        refine⟨j+1,by omega, ?_, ?_,hB2⟩
        · rw[h2.out];go_num
        · rw[h4.out,List.map_append,List.map_take];exact hown2
      case measure=>simp[intOf];omega
    · have hjn:j=ns.length:=by omega
      subst hjn;have h3:=hide (dec_end hp);rw[offs_all]at h3⊢;obtain⟨q,hq⟩:∃q,(encAll ns).length=q:=⟨_,rfl⟩;rw[hq]at h3 hle⊢;have HQ:=hide hq;clear hq;go_wp2_with fail;refine(next_any s q _ (by omega) (by omega)).mono ?_;rintro e w1 ⟨rfl,hb1⟩;rw[h3.out];unfold nextV;have hb2:=hB.trans (hb1.mono hsz);go_wp2_with fail;go_ret3
      exact⟨by rw[HQ.out];rfl,hb2⟩
theorem own_shape {w:World} {base:Nat} {e:TypeId} {v:Value} {n:Nat} {xs:List Value} (h:w.ownsRow base e 1 v n xs):∃a cap,v= .slice a n cap:=by
 rcases h.2 with ⟨rfl,rfl⟩|⟨g,cap,cur,rfl,_⟩
 ·exact⟨_,_,rfl⟩
 ·exact⟨_,_,rfl⟩
theorem own_cells {w:World} {base:Nat} {v:Value} {n:Nat} {xs:List Int} (h:w.ownsRow base 3 1 v n (xs.map (Value.int .i64))) (hx:xs.length=n) (hn:0<n):
  ∃g cap,v= .slice (some ⟨g,0,none⟩) n cap∧g<w.heap.size∧∀i,i<n→w.cell? ⟨g,0+i,none⟩=some (.int .i64 (xs.getD i 0)):=by
 obtain⟨g,cap,rfl,_,hlt,hc⟩:=own_open h hn;refine⟨g,cap,rfl,hlt,fun i hi=> ?_⟩;have:=hc i (.int .i64 (xs.getD i 0)) (by simp[List.getD,show i<xs.length by omega])
 rwa [Addr.add_lit]at this
end Go.Proofs.YtchllgkgjompgaaGreatDoor
