import Derived.Test.YtinlmmaokphhbaaGreatDoorA1
import Derived.OwnWalk
import Derived.Maps.AppendAt
import Derived.WalkSpells
namespace Go.Proofs.YtinlmmaokphhbaaGreatDoor
set_option maxHeartbeats 400000
set_option maxRecDepth 100000
open Go.RowKit
set_option linter.unusedVariables false
open Go.Proofs.Tryz
open Go renaming rounds_succ→Qa,wp_loop_rounds→Qb,wpList_append_own→Qc,info_parts→Qd,strOfNums→Qe
open _root_.List renaming cons_append→Qf,nil_append→Qg,length_drop→Qh,map_append→Qi,map_take→Qj,take_length→Qk,getD→Ql
open Go.RowKit.Below renaming refl→Qm
open _root_.Nat renaming zero_le→Qn,reduceAdd→Qo,zero_add→Qp,le_of_eq→Qq,le_refl→Qr
open Go.World renaming ownsRow_made→Qs,cell?_alloc_mark→Qt,ownsRow_nil→Qu
open Go.Value renaming int→Qv
theorem Zbv{n:Nat}:n≤n:=Qr n
theorem Zn0:(prog.info? 5).map (fun i=>(i.zero,i.size,i.bytes))=some (some (.int .u8 0),1,1):=by kernel_rfl
theorem Zr2 (w:World)(x:Value)(t:TypeId):∀j u,[x][j]? =some u→(w.alloc (.cells #[x] t)).cell? ((⟨w.heap.size,0,none⟩:Addr).add j)=some u:=by
 intro j u hj
 match j,hj with
 | 0,hj=>
  obtain rfl:x=u:=by simpa using hj
  have:(⟨w.heap.size,0,none⟩:Addr).add 0=⟨w.heap.size,0,none⟩:=rfl;rw[this,Qt];rfl
theorem Zbx (w:World)(x:Value)(t:TypeId)(g:Nat)(hg:g=w.heap.size):∀j u,[x][j]? =some u→(w.alloc (.cells #[x] t)).cell? ((⟨g,0,none⟩:Addr).add j)=some u:=by
 subst hg;exact Zr2 w x t
theorem Zd9 {k:IntKind}(n:Int):∀u∈[Qv k n],u.oneCell'=true:=by
 intro u hu;simp at hu;subst hu;rfl
theorem Zal {B:Nat}{a W w1:World}{e:TypeId}{s n:Nat}{v:Value}{xs:List Value}(h:Below B a W)(hown:W.ownsRow B e s v n xs)(hg:W.grownBy w1 v.ownBlock)(hB:B≤W.heap.size):Below B a w1:=
 h.grown hg hB (fun k hk=>(hown.lt k hk).1)
theorem Zgt {w:World}{base:Nat}{e:TypeId}{v:Value}{n:Nat}{xs:List Value}(h:w.ownsRow base e 1 v n xs)(hn:0<n):
  ∃g cap,v= .slice (some ⟨g,0,none⟩) n cap∧base≤g∧g<w.heap.size∧∀j u,xs[j]? =some u→w.cell? ((⟨g,0,none⟩:Addr).add j)=some u:=by
 rcases h.2 with ⟨_,h0⟩|⟨g,cap,cur,rfl,hb,hg,hr⟩
 ·omega
 ·have hl:=h.lt g rfl;exact⟨g,cap,rfl,hl.1,hl.2,h.cells (g:=g) rfl⟩
theorem Z70 (n:Int)(w:World)(h0:0≤n)(h1:n≤1114111):
    Calls prog 145 #[.int .i64 n,.int .i64 1] w fun e w'=>∃g cap,e= .returned (.slice (some ⟨g,0,none⟩) 1 cap)∧w.heap.size≤g∧g<w'.heap.size∧
      (∀j u,([.int .u8 (128+n % 64)]:List Value)[j]? =some u→w'.cell? ((⟨g,0,none⟩:Addr).add j)=some u)∧Below w.heap.size w w':=by
  obtain⟨i0,hi,hz0,hz1,hz2⟩:=Qd Zn0;have hown0:(w.alloc (.cells #[] 5)).ownsRow w.heap.size 5 1 (.slice (some ⟨w.heap.size,0,none⟩) 0 0) 0 []:=Qs w #[] 0 Zbv (Qn _) rfl;have hb0:Below w.heap.size w (w.alloc (.cells #[] 5)):=(Qm _ _).alloc Zbv _;go_enter func145,ntmps145;go_wp2_with fail;refine Qb 2 ?_;rw[Qa];go_wp2_with fail;refine Qb 1 ?_;rw[Qa];go_wp2_with (at_builtin;refine Qc _ rfl _ _ 149 rfl w.heap.size 5 i0 (.int .u8 0) 1 1 Tryz.underlying149 hi hz0 hz1 hz2 rfl (by decide) _ _ _ rfl (hown0.alloc _) ⟨w.heap.size+1,0,none⟩ 1 1 [.int .u8 (128+n % 64)] rfl rfl ?c11 ?c21 ?c31 ?c41 ?c51 ?_)
  case c11=>exact Zbx _ _ _ _ (by simp)
  case c21=>exact Zd9 _
  case c31=>decide
  case c41=>decide
  case c51=>simp;omega
  intro v1 w1 hown1 hg1 _;have hb1:=Zal (hb0.alloc (by first|omega|(simp;done)|(simp;omega)) _) (hown0.alloc _) hg1 (by first|(simp;done)|(simp;omega));have sz1:=hb1.size;try simp only[Qp,Qo,Qg,Qf]at hown1
  clear hg1 hown0;go_wp2_with fail;rw[Qa];go_wp2_with fail;go_ret;obtain⟨g,cap,rfl,hge,hlt,hcells⟩:=Zgt hown1 (by decide);exact⟨g,cap,rfl,hge,hlt,hcells,hb1⟩
theorem Z71 (n:Int)(w:World)(h0:0≤n)(h1:n≤1114111):
    Calls prog 145 #[.int .i64 n,.int .i64 2] w fun e w'=>∃g cap,e= .returned (.slice (some ⟨g,0,none⟩) 2 cap)∧w.heap.size≤g∧g<w'.heap.size∧
      (∀j u,([.int .u8 (128+n/64 % 64),.int .u8 (128+n % 64)]:List Value)[j]? =some u→w'.cell? ((⟨g,0,none⟩:Addr).add j)=some u)∧Below w.heap.size w w':=by
  obtain⟨i0,hi,hz0,hz1,hz2⟩:=Qd Zn0;have hown0:(w.alloc (.cells #[] 5)).ownsRow w.heap.size 5 1 (.slice (some ⟨w.heap.size,0,none⟩) 0 0) 0 []:=Qs w #[] 0 Zbv (Qn _) rfl;have hb0:Below w.heap.size w (w.alloc (.cells #[] 5)):=(Qm _ _).alloc Zbv _;go_enter func145,ntmps145;go_wp2_with fail;refine Qb 3 ?_;rw[Qa];go_wp2_with fail;refine Qb 2 ?_;rw[Qa];go_wp2_with fail;rw[Qa];go_wp2_with (at_builtin;refine Qc _ rfl _ _ 149 rfl w.heap.size 5 i0 (.int .u8 0) 1 1 Tryz.underlying149 hi hz0 hz1 hz2 rfl (by decide) _ _ _ rfl (hown0.alloc _) ⟨w.heap.size+1,0,none⟩ 1 1 [.int .u8 (128+n/64 % 64)] rfl rfl ?c11 ?c21 ?c31 ?c41 ?c51 ?_)
  case c11=>exact Zbx _ _ _ _ (by simp)
  case c21=>exact Zd9 _
  case c31=>decide
  case c41=>decide
  case c51=>simp;omega
  intro v1 w1 hown1 hg1 _;have hb1:=Zal (hb0.alloc (by first|omega|(simp;done)|(simp;omega)) _) (hown0.alloc _) hg1 (by first|(simp;done)|(simp;omega));have sz1:=hb1.size;try simp only[Qp,Qo,Qg,Qf]at hown1
  clear hg1 hown0;go_wp2_with fail;rw[Qa];go_wp2_with fail;refine Qb 1 ?_;rw[Qa];go_wp2_with (at_builtin;refine Qc _ rfl _ _ 149 rfl w.heap.size 5 i0 (.int .u8 0) 1 1 Tryz.underlying149 hi hz0 hz1 hz2 rfl (by decide) _ _ _ rfl (hown1.alloc _) ⟨w1.heap.size,0,none⟩ 1 1 [.int .u8 (128+n % 64)] rfl rfl ?c12 ?c22 ?c32 ?c42 ?c52 ?_)
  case c12=>exact Zbx _ _ _ _ (by simp)
  case c22=>exact Zd9 _
  case c32=>decide
  case c42=>decide
  case c52=>simp;omega
  intro v2 w2 hown2 hg2 _;have hb2:=Zal (hb1.alloc (by first|omega|(simp;done)|(simp;omega)) _) (hown1.alloc _) hg2 (by first|(simp;done)|(simp;omega));have sz2:=hb2.size;try simp only[Qp,Qo,Qg,Qf]at hown2
  clear hg2 hown1;go_wp2_with fail;rw[Qa];go_wp2_with fail;go_ret;obtain⟨g,cap,rfl,hge,hlt,hcells⟩:=Zgt hown2 (by decide);exact⟨g,cap,rfl,hge,hlt,hcells,hb2⟩
theorem Z72 (n:Int)(w:World)(h0:0≤n)(h1:n≤1114111):
    Calls prog 145 #[.int .i64 n,.int .i64 3] w fun e w'=>∃g cap,e= .returned (.slice (some ⟨g,0,none⟩) 3 cap)∧w.heap.size≤g∧g<w'.heap.size∧
      (∀j u,([.int .u8 (128+n/64/64 % 64),.int .u8 (128+n/64 % 64),.int .u8 (128+n % 64)]:List Value)[j]? =some u→w'.cell? ((⟨g,0,none⟩:Addr).add j)=some u)∧Below w.heap.size w w':=by
  obtain⟨i0,hi,hz0,hz1,hz2⟩:=Qd Zn0;have hown0:(w.alloc (.cells #[] 5)).ownsRow w.heap.size 5 1 (.slice (some ⟨w.heap.size,0,none⟩) 0 0) 0 []:=Qs w #[] 0 Zbv (Qn _) rfl;have hb0:Below w.heap.size w (w.alloc (.cells #[] 5)):=(Qm _ _).alloc Zbv _;go_enter func145,ntmps145;go_wp2_with fail;refine Qb 4 ?_;rw[Qa];go_wp2_with fail;refine Qb 3 ?_;rw[Qa];go_wp2_with fail;rw[Qa];go_wp2_with fail;rw[Qa];go_wp2_with (at_builtin;refine Qc _ rfl _ _ 149 rfl w.heap.size 5 i0 (.int .u8 0) 1 1 Tryz.underlying149 hi hz0 hz1 hz2 rfl (by decide) _ _ _ rfl (hown0.alloc _) ⟨w.heap.size+1,0,none⟩ 1 1 [.int .u8 (128+n/64/64 % 64)] rfl rfl ?c11 ?c21 ?c31 ?c41 ?c51 ?_)
  case c11=>exact Zbx _ _ _ _ (by simp)
  case c21=>exact Zd9 _
  case c31=>decide
  case c41=>decide
  case c51=>simp;omega
  intro v1 w1 hown1 hg1 _;have hb1:=Zal (hb0.alloc (by first|omega|(simp;done)|(simp;omega)) _) (hown0.alloc _) hg1 (by first|(simp;done)|(simp;omega));have sz1:=hb1.size;try simp only[Qp,Qo,Qg,Qf]at hown1
  clear hg1 hown0;go_wp2_with fail;rw[Qa];go_wp2_with fail;refine Qb 2 ?_;rw[Qa];go_wp2_with fail;rw[Qa];go_wp2_with (at_builtin;refine Qc _ rfl _ _ 149 rfl w.heap.size 5 i0 (.int .u8 0) 1 1 Tryz.underlying149 hi hz0 hz1 hz2 rfl (by decide) _ _ _ rfl (hown1.alloc _) ⟨w1.heap.size,0,none⟩ 1 1 [.int .u8 (128+n/64 % 64)] rfl rfl ?c12 ?c22 ?c32 ?c42 ?c52 ?_)
  case c12=>exact Zbx _ _ _ _ (by simp)
  case c22=>exact Zd9 _
  case c32=>decide
  case c42=>decide
  case c52=>simp;omega
  intro v2 w2 hown2 hg2 _;have hb2:=Zal (hb1.alloc (by first|omega|(simp;done)|(simp;omega)) _) (hown1.alloc _) hg2 (by first|(simp;done)|(simp;omega));have sz2:=hb2.size;try simp only[Qp,Qo,Qg,Qf]at hown2
  clear hg2 hown1;go_wp2_with fail;rw[Qa];go_wp2_with fail;refine Qb 1 ?_;rw[Qa];go_wp2_with (at_builtin;refine Qc _ rfl _ _ 149 rfl w.heap.size 5 i0 (.int .u8 0) 1 1 Tryz.underlying149 hi hz0 hz1 hz2 rfl (by decide) _ _ _ rfl (hown2.alloc _) ⟨w2.heap.size,0,none⟩ 1 1 [.int .u8 (128+n % 64)] rfl rfl ?c13 ?c23 ?c33 ?c43 ?c53 ?_)
  case c13=>exact Zbx _ _ _ _ (by simp)
  case c23=>exact Zd9 _
  case c33=>decide
  case c43=>decide
  case c53=>simp;omega
  intro v3 w3 hown3 hg3 _;have hb3:=Zal (hb2.alloc (by first|omega|(simp;done)|(simp;omega)) _) (hown2.alloc _) hg3 (by first|(simp;done)|(simp;omega));have sz3:=hb3.size;try simp only[Qp,Qo,Qg,Qf]at hown3
  clear hg3 hown2;go_wp2_with fail;rw[Qa];go_wp2_with fail;go_ret;obtain⟨g,cap,rfl,hge,hlt,hcells⟩:=Zgt hown3 (by decide);exact⟨g,cap,rfl,hge,hlt,hcells,hb3⟩
theorem Zou (w:World)(g n cap:Nat)(xs:List Int)(hn:xs.length=n)(h:∀j u,(xs.map (Qv .u8))[j]? =some u→w.cell? ((⟨g,0,none⟩:Addr).add j)=some u):
    (convert 149 9 (.slice (some ⟨g,0,none⟩) n cap)).run prog w= .ok (.string (Qe xs)) w:=
  run_convert_bytes_arg (P:=prog) w 149 5 Tryz.underlying149 Tryz.underlying5 g 0 n cap xs hn
    (fun i hi=>by
      have hi':i<xs.length:=by omega
      have:=h i (.int .u8 (xs.getD i 0)) (by simp[Ql,hi'])
      rwa [Addr.add_lit]at this) 9 Tryz.underlying9
theorem Zqx {w w1:World}{x:Value}(hb:Below (w.heap.size+1) (w.alloc (.cells #[x] 5)) w1):w1.ownsRow w.heap.size 5 1 (.slice (some ⟨w.heap.size,0,none⟩) 1 1) 1 [x]:=by
 refine⟨rfl,.inr ⟨w.heap.size,1, #[x],rfl,Qr _, ?_,Qr _,by decide,rfl,rfl⟩⟩;rw[hb.block w.heap.size (by omega)];exact heap_alloc_new w _
theorem Z2k (n:Int)(w:World)(h0:0≤n)(h1:n≤127):
  Calls prog 134 #[.int .i64 n] w fun e w'=>e= .returned (.string (Qe [n]))∧Below w.heap.size w w':=by
 have hc:=Z1a w #[.int .u8 n] 5 (0,0) [n] 1 1 rfl (by intro i hi;match i,hi with|0,_=>rfl);go_enter func134,ntmps134;go_wp2_with fail;go_ret;exact⟨rfl,(Qm _ _).alloc Zbv _⟩
theorem Z2l (n:Int)(w:World)(h0:128≤n)(h1:n≤2047):
  Calls prog 134 #[.int .i64 n] w fun e w'=>e= .returned (.string (Qe [192+n/64,128+n % 64]))∧Below w.heap.size w w':=by
 obtain⟨i0,hi,hz0,hz1,hz2⟩:=Qd Zn0;have hh:Qe [192+n/64,128+n % 64]=Qe [192+n/64,128+n % 64]:=by
  have e:192+n/64=192+n/64:=by omega
  rw[e]
 rw[hh];clear hh;go_enter func134,ntmps134;go_wp2_with fail;refine(Z70 _ _ (by omega) (by omega)).mono ?_;rintro e w1 ⟨g1,cap1,rfl,hge1,hlt1,hc1,hb1⟩;have hown:=Zqx (w:=w) (by simpa using hb1);have hB:Below w.heap.size w w1:=((Qm _ _).alloc Zbv _).trans (hb1.mono (by simp));have hsz:=hB.size;go_wp2_with (at_builtin;refine Qc _ rfl _ _ 149 rfl w.heap.size 5 i0 (.int .u8 0) 1 1 Tryz.underlying149 hi hz0 hz1 hz2 rfl (by decide) _ _ _ rfl hown ⟨g1,0,none⟩ 1 cap1 [.int .u8 (128+n % 64)] rfl rfl ?c1 ?c2 ?c3 ?c4 ?c5 ?_)
 case c1=>exact hc1
 case c2=>intro u hu;simp at hu;rcases hu with rfl<;>rfl
 case c3=>decide
 case c4=>decide
 case c5=>omega
 intro v2 w2 hown2 hg2 _;have hB2:=Zal hB hown hg2 hsz;clear hg2 hown;obtain⟨g2,cap2,rfl,_,_,hc2⟩:=Zgt hown2 (by decide);have hc:=Zou w2 g2 2 cap2 [192+n/64,128+n % 64] rfl hc2;clear hown2 hc2 hc1;go_wp2_with fail;go_ret;exact⟨rfl,hB2⟩
theorem Z2m (n:Int)(w:World)(h0:2048≤n)(h1:n≤65535):
  Calls prog 134 #[.int .i64 n] w fun e w'=>e= .returned (.string (Qe [224+n/64/64,128+n/64 % 64,128+n % 64]))∧Below w.heap.size w w':=by
 obtain⟨i0,hi,hz0,hz1,hz2⟩:=Qd Zn0;have hh:Qe [224+n/64/64,128+n/64 % 64,128+n % 64]=Qe [224+n/4096,128+n/64 % 64,128+n % 64]:=by
  have e:224+n/64/64=224+n/4096:=by omega
  rw[e]
 rw[hh];clear hh;go_enter func134,ntmps134;go_wp2_with fail;refine(Z71 _ _ (by omega) (by omega)).mono ?_;rintro e w1 ⟨g1,cap1,rfl,hge1,hlt1,hc1,hb1⟩;have hown:=Zqx (w:=w) (by simpa using hb1);have hB:Below w.heap.size w w1:=((Qm _ _).alloc Zbv _).trans (hb1.mono (by simp));have hsz:=hB.size;go_wp2_with (at_builtin;refine Qc _ rfl _ _ 149 rfl w.heap.size 5 i0 (.int .u8 0) 1 1 Tryz.underlying149 hi hz0 hz1 hz2 rfl (by decide) _ _ _ rfl hown ⟨g1,0,none⟩ 2 cap1 [.int .u8 (128+n/64 % 64),.int .u8 (128+n % 64)] rfl rfl ?c1 ?c2 ?c3 ?c4 ?c5 ?_)
 case c1=>exact hc1
 case c2=>intro u hu;simp at hu;rcases hu with rfl|rfl<;>rfl
 case c3=>decide
 case c4=>decide
 case c5=>omega
 intro v2 w2 hown2 hg2 _;have hB2:=Zal hB hown hg2 hsz;clear hg2 hown;obtain⟨g2,cap2,rfl,_,_,hc2⟩:=Zgt hown2 (by decide);have hc:=Zou w2 g2 3 cap2 [224+n/4096,128+n/64 % 64,128+n % 64] rfl hc2;clear hown2 hc2 hc1;go_wp2_with fail;go_ret;exact⟨rfl,hB2⟩
theorem Z2n (n:Int)(w:World)(h0:65536≤n)(h1:n≤1114111):
  Calls prog 134 #[.int .i64 n] w fun e w'=>e= .returned (.string (Qe [240+n/64/64/64,128+n/64/64 % 64,128+n/64 % 64,128+n % 64]))∧Below w.heap.size w w':=by
 obtain⟨i0,hi,hz0,hz1,hz2⟩:=Qd Zn0;have hh:Qe [240+n/64/64/64,128+n/64/64 % 64,128+n/64 % 64,128+n % 64]=Qe [240+n/262144,128+n/64/64 % 64,128+n/64 % 64,128+n % 64]:=by
  have e:240+n/64/64/64=240+n/262144:=by omega
  rw[e]
 rw[hh];clear hh;go_enter func134,ntmps134;go_wp2_with fail;refine(Z72 _ _ (by omega) (by omega)).mono ?_;rintro e w1 ⟨g1,cap1,rfl,hge1,hlt1,hc1,hb1⟩;have hown:=Zqx (w:=w) (by simpa using hb1);have hB:Below w.heap.size w w1:=((Qm _ _).alloc Zbv _).trans (hb1.mono (by simp));have hsz:=hB.size;go_wp2_with (at_builtin;refine Qc _ rfl _ _ 149 rfl w.heap.size 5 i0 (.int .u8 0) 1 1 Tryz.underlying149 hi hz0 hz1 hz2 rfl (by decide) _ _ _ rfl hown ⟨g1,0,none⟩ 3 cap1 [.int .u8 (128+n/64/64 % 64),.int .u8 (128+n/64 % 64),.int .u8 (128+n % 64)] rfl rfl ?c1 ?c2 ?c3 ?c4 ?c5 ?_)
 case c1=>exact hc1
 case c2=>intro u hu;simp at hu;rcases hu with rfl|rfl|rfl<;>rfl
 case c3=>decide
 case c4=>decide
 case c5=>omega
 intro v2 w2 hown2 hg2 _;have hB2:=Zal hB hown hg2 hsz;clear hg2 hown;obtain⟨g2,cap2,rfl,_,_,hc2⟩:=Zgt hown2 (by decide);have hc:=Zou w2 g2 4 cap2 [240+n/262144,128+n/64/64 % 64,128+n/64 % 64,128+n % 64] rfl hc2;clear hown2 hc2 hc1;go_wp2_with fail;go_ret;exact⟨rfl,hB2⟩
theorem Zd1 (n:Int)(w:World)(h0:0≤n)(h1:n≤1114111):
  Calls prog 134 #[.int .i64 n] w fun e w'=>e= .returned (.string (enc n))∧Below w.heap.size w w':=by
 unfold enc;by_cases h1:n≤127
 ·rw[Zmu h1];exact Z2k n w (by omega) h1
 ·by_cases h2:n≤2047
  ·rw[Zmv (by omega) h2];exact Z2l n w (by omega) h2
  ·by_cases h3:n≤65535
   ·rw[Zmw (by omega) h3];exact Z2m n w (by omega) h3
   ·rw[Zmx (by omega)];exact Z2n n w (by omega) (by omega)
theorem Zbf (w:World)(s:ByteArray)(a b n:Nat)(hn:b=a+n)(hb:b≤s.size):
  ∃cap W,(convert 9 149 (.string (s.extract a b))).run prog w= .ok (.slice (some ⟨w.heap.size,0,none⟩) n cap) W∧Below w.heap.size w W∧
   ∀i,i<n→W.cell? ⟨w.heap.size,i,none⟩=some (.int .u8 (byt s (a+i))):=by
 have hsz:(s.extract a b).size=n:=by simp;omega
 have hr:=run_bytes_of_string (P:=prog) w 9 149 5 (s.extract a b) Tryz.underlying9 Tryz.underlying149 Tryz.underlying5;generalize hC:bytesRow (s.extract a b) _=C at hr
 rw[hsz]at hr hC;refine⟨_,_,hr,((Qm _ _).drew).alloc Zbv _, ?_⟩;intro i h;have e:w.heap.size=w.drew.heap.size:=rfl;rw[e,Qt,←hC];unfold bytesRow;rw[Array.getElem?_append_left (by simp;omega),←Zds s (a+i) (by omega)];have hi:i<(s.extract a b).size:=by omega
 have e1:(s.extract a b).data[i]? =some (s[a+i]'(by omega)):=by
  rw[Array.getElem?_eq_getElem (by simpa using hi)];exact congrArg some (ByteArray.getElem_extract (start:=a) (stop:=b) (i:=i) hi)
 rw[Array.getElem?_map,e1];rfl
theorem Z8u (s:ByteArray)(k:Nat)(w:World)(hs:s.size≤9223372036854775807)(hk:k<s.size)(b0:Int)(hb0:(s[k].toNat:Int)=b0)(h0:0≤b0)(h1:b0≤255)(h2:(128≤b0∧b0<192)∨248≤b0):
  Calls prog 137 #[.string s,.int .i64 k] w fun e w'=>e= .returned (.tuple #[.int .i64 0,.int .i64 0,.int .i64 1])∧Below w.heap.size w w':=by
 have hsh:Zy b0=0:=by unfold Zy;rw[if_neg (by omega),if_pos (by omega)]
 have hsz:Z9 b0=0:=by unfold Z9;rw[if_neg (by omega),if_pos (by omega)]
 go_enter func137,ntmps137;go_wp2_with fail;refine(Zaa _ _ (by omega) (by omega)).mono ?_;rintro e w' ⟨rfl,rfl⟩;rw[hsh,hsz];clear hsh hsz;go_wp2_with fail;go_ret3
 exact⟨rfl,Qm _ _⟩
theorem Zzr (s:ByteArray)(k:Nat)(w:World)(hs:s.size≤9223372036854775807)(hk:k<s.size)(b0:Int)(hb0:(s[k].toNat:Int)=b0)(h0:192≤b0)(h1:b0<224)(h2:s.size<k+2):
  Calls prog 137 #[.string s,.int .i64 k] w fun e w'=>e= .returned (.tuple #[.int .i64 0,.int .i64 0,.int .i64 1])∧Below w.heap.size w w':=by
 have hsh:Zy b0=b0 - 192:=by unfold Zy;rw[if_neg (by omega),if_neg (by omega),if_neg (by omega),if_neg (by omega)]
 have hsz:Z9 b0=2:=by unfold Z9;rw[if_neg (by omega),if_neg (by omega),if_neg (by omega),if_neg (by omega)]
 have hgt:(s.size:Int) - (k:Int)<2:=by omega
 go_enter func137,ntmps137;go_wp2_with fail;refine(Zaa _ _ (by omega) (by omega)).mono ?_;rintro e w' ⟨rfl,rfl⟩;rw[hsh,hsz];clear hsh hsz;go_wp2_with fail;go_ret3
 exact⟨rfl,Qm _ _⟩
theorem Zzs (s:ByteArray)(k:Nat)(w:World)(hs:s.size≤9223372036854775807)(hk:k<s.size)(b0:Int)(hb0:(s[k].toNat:Int)=b0)(h0:224≤b0)(h1:b0<240)(h2:s.size<k+3):
  Calls prog 137 #[.string s,.int .i64 k] w fun e w'=>e= .returned (.tuple #[.int .i64 0,.int .i64 0,.int .i64 1])∧Below w.heap.size w w':=by
 have hsh:Zy b0=b0 - 224:=by unfold Zy;rw[if_neg (by omega),if_neg (by omega),if_neg (by omega),if_pos (by omega)]
 have hsz:Z9 b0=3:=by unfold Z9;rw[if_neg (by omega),if_neg (by omega),if_neg (by omega),if_pos (by omega)]
 have hgt:(s.size:Int) - (k:Int)<3:=by omega
 go_enter func137,ntmps137;go_wp2_with fail;refine(Zaa _ _ (by omega) (by omega)).mono ?_;rintro e w' ⟨rfl,rfl⟩;rw[hsh,hsz];clear hsh hsz;go_wp2_with fail;go_ret3
 exact⟨rfl,Qm _ _⟩
theorem Zzt (s:ByteArray)(k:Nat)(w:World)(hs:s.size≤9223372036854775807)(hk:k<s.size)(b0:Int)(hb0:(s[k].toNat:Int)=b0)(h0:240≤b0)(h1:b0<248)(h2:s.size<k+4):
  Calls prog 137 #[.string s,.int .i64 k] w fun e w'=>e= .returned (.tuple #[.int .i64 0,.int .i64 0,.int .i64 1])∧Below w.heap.size w w':=by
 have hsh:Zy b0=b0 - 240:=by unfold Zy;rw[if_neg (by omega),if_neg (by omega),if_pos (by omega)]
 have hsz:Z9 b0=4:=by unfold Z9;rw[if_neg (by omega),if_neg (by omega),if_pos (by omega)]
 have hgt:(s.size:Int) - (k:Int)<4:=by omega
 go_enter func137,ntmps137;go_wp2_with fail;refine(Zaa _ _ (by omega) (by omega)).mono ?_;rintro e w' ⟨rfl,rfl⟩;rw[hsh,hsz];clear hsh hsz;go_wp2_with fail;go_ret3
 exact⟨rfl,Qm _ _⟩
theorem Z7p (s:ByteArray)(k:Nat)(w:World)(hs:s.size≤9223372036854775807)(hk:k<s.size)(b0:Int)(hb0:(s[k].toNat:Int)=b0)(h0:0≤b0)(h1:b0<128):
  Calls prog 137 #[.string s,.int .i64 k] w fun e w'=>e= .returned (.tuple #[.int .i64 b0,.int .i64 1,.int .i64 0])∧Below w.heap.size w w':=by
 have hsh:Zy b0=b0:=by unfold Zy;rw[if_pos (by omega)]
 have hsz:Z9 b0=1:=by unfold Z9;rw[if_pos (by omega)]
 have hr:Zx b0=true:=Jz.2 (by omega);have hw:wid b0=1:=Z3i (by omega);obtain⟨cap,W,hconv,hB, -⟩:=Zbf w s (k+1) (k+1) 0 rfl (by omega);have he:s.extract (k+1) (k+1)=ByteArray.empty:=by
  apply ByteArray.ext
  simp
 rw[he]at hconv;clear he;go_enter func137,ntmps137;go_wp2_with fail;refine(Zaa _ _ (by omega) (by omega)).mono ?_;rintro e w' ⟨rfl,rfl⟩;rw[hsh,hsz];clear hsh hsz;go_wp2_with fail;refine Qb 1 ?_;rw[Qa];go_wp2_with fail;refine(Zb9 _ _).mono ?_;rintro e w' ⟨rfl,rfl⟩;rw[hr];go_wp2_with fail;refine(Zfv _ _).mono ?_;rintro e w' ⟨rfl,rfl⟩;rw[hw];go_wp2_with fail;go_ret3
 exact⟨rfl,hB⟩
theorem Z7q (s:ByteArray)(k:Nat)(w:World)(hs:s.size≤9223372036854775807)(hk:k<s.size)(b0:Int)(hb0:(s[k].toNat:Int)=b0)(h0:192≤b0)(h1:b0<224)(hm:k+2≤s.size)(c1:Int)(hc1:byt s (k+1+0)=c1)(lo1:0≤c1)(hi1:c1≤255)(f1:Zf c1=false):
  Calls prog 137 #[.string s,.int .i64 k] w fun e w'=>e= .returned (.tuple #[.int .i64 0,.int .i64 0,.int .i64 1])∧Below w.heap.size w w':=by
 have hsh:Zy b0=b0 - 192:=by unfold Zy;rw[if_neg (by omega),if_neg (by omega),if_neg (by omega),if_neg (by omega)]
 have hsz:Z9 b0=2:=by unfold Z9;rw[if_neg (by omega),if_neg (by omega),if_neg (by omega),if_neg (by omega)]
 obtain⟨cap,W,hconv,hB,hcell⟩:=Zbf w s (k+1) (k+2) 1 (by omega) hm;have g1:W.cell? ⟨w.heap.size,0,none⟩=some (.int .u8 c1):=by rw[hcell 0 (by omega),hc1]
 have a1:bits .and .u8 c1 63=c1 % 64:=Jd _ lo1 hi1;have o1:bits .or .i64 ((b0 - 192)*64) (c1 % 64)=(b0 - 192)*64+c1 % 64:=Zap _ _ (by omega) (by omega) (by omega) (by omega);clear hcell hc1;go_enter func137,ntmps137;go_wp2_with fail;refine(Zaa _ _ (by omega) (by omega)).mono ?_;rintro e w' ⟨rfl,rfl⟩;rw[hsh,hsz];clear hsh hsz;go_wp2_with fail;refine Qb 2 ?_;rw[Qa];go_wp2_with fail;refine(Z0 _ _).mono ?_;rintro e w' ⟨rfl,rfl⟩;rw[f1];go_wp2_with fail;go_ret3
 exact⟨rfl,hB⟩
theorem Z8g (s:ByteArray)(k:Nat)(w:World)(hs:s.size≤9223372036854775807)(hk:k<s.size)(b0:Int)(hb0:(s[k].toNat:Int)=b0)(h0:192≤b0)(h1:b0<224)(hm:k+2≤s.size)(c1:Int)(hc1:byt s (k+1+0)=c1)(lo1:0≤c1)(hi1:c1≤255)(f1:Zf c1=true)(hr:Zx ((b0 - 192)*64+c1 % 64)=false):
  Calls prog 137 #[.string s,.int .i64 k] w fun e w'=>e= .returned (.tuple #[.int .i64 0,.int .i64 0,.int .i64 1])∧Below w.heap.size w w':=by
 have hsh:Zy b0=b0 - 192:=by unfold Zy;rw[if_neg (by omega),if_neg (by omega),if_neg (by omega),if_neg (by omega)]
 have hsz:Z9 b0=2:=by unfold Z9;rw[if_neg (by omega),if_neg (by omega),if_neg (by omega),if_neg (by omega)]
 obtain⟨cap,W,hconv,hB,hcell⟩:=Zbf w s (k+1) (k+2) 1 (by omega) hm;have g1:W.cell? ⟨w.heap.size,0,none⟩=some (.int .u8 c1):=by rw[hcell 0 (by omega),hc1]
 have a1:bits .and .u8 c1 63=c1 % 64:=Jd _ lo1 hi1;have o1:bits .or .i64 ((b0 - 192)*64) (c1 % 64)=(b0 - 192)*64+c1 % 64:=Zap _ _ (by omega) (by omega) (by omega) (by omega);clear hcell hc1;go_enter func137,ntmps137;go_wp2_with fail;refine(Zaa _ _ (by omega) (by omega)).mono ?_;rintro e w' ⟨rfl,rfl⟩;rw[hsh,hsz];clear hsh hsz;go_wp2_with fail;refine Qb 2 ?_;rw[Qa];go_wp2_with fail;refine(Z0 _ _).mono ?_;rintro e w' ⟨rfl,rfl⟩;rw[f1];go_wp2_with fail;rw[Qa];go_wp2_with fail;refine(Zb9 _ _).mono ?_;rintro e w' ⟨rfl,rfl⟩;rw[hr];go_wp2_with fail;go_ret3
 exact⟨rfl,hB⟩
theorem Z8h (s:ByteArray)(k:Nat)(w:World)(hs:s.size≤9223372036854775807)(hk:k<s.size)(b0:Int)(hb0:(s[k].toNat:Int)=b0)(h0:192≤b0)(h1:b0<224)(hm:k+2≤s.size)(c1:Int)(hc1:byt s (k+1+0)=c1)(lo1:0≤c1)(hi1:c1≤255)(f1:Zf c1=true)(hr:Zx ((b0 - 192)*64+c1 % 64)=true)(hw:wid ((b0 - 192)*64+c1 % 64)≠2):
  Calls prog 137 #[.string s,.int .i64 k] w fun e w'=>e= .returned (.tuple #[.int .i64 0,.int .i64 0,.int .i64 1])∧Below w.heap.size w w':=by
 obtain⟨x,hx⟩:∃x:Nat,wid ((b0 - 192)*64+c1 % 64)=x:=⟨_,rfl⟩;rw[hx]at hw;have hne:((x:Int)==2)=false:=by simp;omega
 have hsh:Zy b0=b0 - 192:=by unfold Zy;rw[if_neg (by omega),if_neg (by omega),if_neg (by omega),if_neg (by omega)]
 have hsz:Z9 b0=2:=by unfold Z9;rw[if_neg (by omega),if_neg (by omega),if_neg (by omega),if_neg (by omega)]
 obtain⟨cap,W,hconv,hB,hcell⟩:=Zbf w s (k+1) (k+2) 1 (by omega) hm;have g1:W.cell? ⟨w.heap.size,0,none⟩=some (.int .u8 c1):=by rw[hcell 0 (by omega),hc1]
 have a1:bits .and .u8 c1 63=c1 % 64:=Jd _ lo1 hi1;have o1:bits .or .i64 ((b0 - 192)*64) (c1 % 64)=(b0 - 192)*64+c1 % 64:=Zap _ _ (by omega) (by omega) (by omega) (by omega);clear hcell hc1;go_enter func137,ntmps137;go_wp2_with fail;refine(Zaa _ _ (by omega) (by omega)).mono ?_;rintro e w' ⟨rfl,rfl⟩;rw[hsh,hsz];clear hsh hsz;go_wp2_with fail;refine Qb 2 ?_;rw[Qa];go_wp2_with fail;refine(Z0 _ _).mono ?_;rintro e w' ⟨rfl,rfl⟩;rw[f1];go_wp2_with fail;rw[Qa];go_wp2_with fail;refine(Zb9 _ _).mono ?_;rintro e w' ⟨rfl,rfl⟩;rw[hr];go_wp2_with fail;refine(Zfv _ _).mono ?_;rintro e w' ⟨rfl,rfl⟩;rw[hx];clear hx;go_wp2_with fail;go_ret3
 exact⟨rfl,hB⟩
theorem Z7r (s:ByteArray)(k:Nat)(w:World)(hs:s.size≤9223372036854775807)(hk:k<s.size)(b0:Int)(hb0:(s[k].toNat:Int)=b0)(h0:192≤b0)(h1:b0<224)(hm:k+2≤s.size)(c1:Int)(hc1:byt s (k+1+0)=c1)(lo1:0≤c1)(hi1:c1≤255)(f1:Zf c1=true)(hr:Zx ((b0 - 192)*64+c1 % 64)=true)(hw:wid ((b0 - 192)*64+c1 % 64)=2):
  Calls prog 137 #[.string s,.int .i64 k] w fun e w'=>e= .returned (.tuple #[.int .i64 ((b0 - 192)*64+c1 % 64),.int .i64 2,.int .i64 0])∧Below w.heap.size w w':=by
 have hsh:Zy b0=b0 - 192:=by unfold Zy;rw[if_neg (by omega),if_neg (by omega),if_neg (by omega),if_neg (by omega)]
 have hsz:Z9 b0=2:=by unfold Z9;rw[if_neg (by omega),if_neg (by omega),if_neg (by omega),if_neg (by omega)]
 obtain⟨cap,W,hconv,hB,hcell⟩:=Zbf w s (k+1) (k+2) 1 (by omega) hm;have g1:W.cell? ⟨w.heap.size,0,none⟩=some (.int .u8 c1):=by rw[hcell 0 (by omega),hc1]
 have a1:bits .and .u8 c1 63=c1 % 64:=Jd _ lo1 hi1;have o1:bits .or .i64 ((b0 - 192)*64) (c1 % 64)=(b0 - 192)*64+c1 % 64:=Zap _ _ (by omega) (by omega) (by omega) (by omega);clear hcell hc1;go_enter func137,ntmps137;go_wp2_with fail;refine(Zaa _ _ (by omega) (by omega)).mono ?_;rintro e w' ⟨rfl,rfl⟩;rw[hsh,hsz];clear hsh hsz;go_wp2_with fail;refine Qb 2 ?_;rw[Qa];go_wp2_with fail;refine(Z0 _ _).mono ?_;rintro e w' ⟨rfl,rfl⟩;rw[f1];go_wp2_with fail;rw[Qa];go_wp2_with fail;refine(Zb9 _ _).mono ?_;rintro e w' ⟨rfl,rfl⟩;rw[hr];go_wp2_with fail;refine(Zfv _ _).mono ?_;rintro e w' ⟨rfl,rfl⟩;rw[hw];go_wp2_with fail;go_ret3
 exact⟨rfl,hB⟩
theorem Z7s (s:ByteArray)(k:Nat)(w:World)(hs:s.size≤9223372036854775807)(hk:k<s.size)(b0:Int)(hb0:(s[k].toNat:Int)=b0)(h0:224≤b0)(h1:b0<240)(hm:k+3≤s.size)(c1 c2:Int)(hc1:byt s (k+1+0)=c1)(lo1:0≤c1)(hi1:c1≤255)(hc2:byt s (k+1+1)=c2)(lo2:0≤c2)(hi2:c2≤255)(f1:Zf c1=false):
  Calls prog 137 #[.string s,.int .i64 k] w fun e w'=>e= .returned (.tuple #[.int .i64 0,.int .i64 0,.int .i64 1])∧Below w.heap.size w w':=by
 have hsh:Zy b0=b0 - 224:=by unfold Zy;rw[if_neg (by omega),if_neg (by omega),if_neg (by omega),if_pos (by omega)]
 have hsz:Z9 b0=3:=by unfold Z9;rw[if_neg (by omega),if_neg (by omega),if_neg (by omega),if_pos (by omega)]
 obtain⟨cap,W,hconv,hB,hcell⟩:=Zbf w s (k+1) (k+3) 2 (by omega) hm;have g1:W.cell? ⟨w.heap.size,0,none⟩=some (.int .u8 c1):=by rw[hcell 0 (by omega),hc1]
 have a1:bits .and .u8 c1 63=c1 % 64:=Jd _ lo1 hi1;have g2:W.cell? ⟨w.heap.size,1,none⟩=some (.int .u8 c2):=by rw[hcell 1 (by omega),hc2]
 have a2:bits .and .u8 c2 63=c2 % 64:=Jd _ lo2 hi2;have o1:bits .or .i64 ((b0 - 224)*64) (c1 % 64)=(b0 - 224)*64+c1 % 64:=Zap _ _ (by omega) (by omega) (by omega) (by omega);have o2:bits .or .i64 (((b0 - 224)*64+c1 % 64)*64) (c2 % 64)=((b0 - 224)*64+c1 % 64)*64+c2 % 64:=Zap _ _ (by omega) (by omega) (by omega) (by omega);clear hcell hc1 hc2;go_enter func137,ntmps137;go_wp2_with fail;refine(Zaa _ _ (by omega) (by omega)).mono ?_;rintro e w' ⟨rfl,rfl⟩;rw[hsh,hsz];clear hsh hsz;go_wp2_with fail;refine Qb 3 ?_;rw[Qa];go_wp2_with fail;refine(Z0 _ _).mono ?_;rintro e w' ⟨rfl,rfl⟩;rw[f1];go_wp2_with fail;go_ret3
 exact⟨rfl,hB⟩
theorem Z7t (s:ByteArray)(k:Nat)(w:World)(hs:s.size≤9223372036854775807)(hk:k<s.size)(b0:Int)(hb0:(s[k].toNat:Int)=b0)(h0:224≤b0)(h1:b0<240)(hm:k+3≤s.size)(c1 c2:Int)(hc1:byt s (k+1+0)=c1)(lo1:0≤c1)(hi1:c1≤255)(hc2:byt s (k+1+1)=c2)(lo2:0≤c2)(hi2:c2≤255)(f1:Zf c1=true)(f2:Zf c2=false):
  Calls prog 137 #[.string s,.int .i64 k] w fun e w'=>e= .returned (.tuple #[.int .i64 0,.int .i64 0,.int .i64 1])∧Below w.heap.size w w':=by
 have hsh:Zy b0=b0 - 224:=by unfold Zy;rw[if_neg (by omega),if_neg (by omega),if_neg (by omega),if_pos (by omega)]
 have hsz:Z9 b0=3:=by unfold Z9;rw[if_neg (by omega),if_neg (by omega),if_neg (by omega),if_pos (by omega)]
 obtain⟨cap,W,hconv,hB,hcell⟩:=Zbf w s (k+1) (k+3) 2 (by omega) hm;have g1:W.cell? ⟨w.heap.size,0,none⟩=some (.int .u8 c1):=by rw[hcell 0 (by omega),hc1]
 have a1:bits .and .u8 c1 63=c1 % 64:=Jd _ lo1 hi1;have g2:W.cell? ⟨w.heap.size,1,none⟩=some (.int .u8 c2):=by rw[hcell 1 (by omega),hc2]
 have a2:bits .and .u8 c2 63=c2 % 64:=Jd _ lo2 hi2;have o1:bits .or .i64 ((b0 - 224)*64) (c1 % 64)=(b0 - 224)*64+c1 % 64:=Zap _ _ (by omega) (by omega) (by omega) (by omega);have o2:bits .or .i64 (((b0 - 224)*64+c1 % 64)*64) (c2 % 64)=((b0 - 224)*64+c1 % 64)*64+c2 % 64:=Zap _ _ (by omega) (by omega) (by omega) (by omega);clear hcell hc1 hc2;go_enter func137,ntmps137;go_wp2_with fail;refine(Zaa _ _ (by omega) (by omega)).mono ?_;rintro e w' ⟨rfl,rfl⟩;rw[hsh,hsz];clear hsh hsz;go_wp2_with fail;refine Qb 3 ?_;rw[Qa];go_wp2_with fail;refine(Z0 _ _).mono ?_;rintro e w' ⟨rfl,rfl⟩;rw[f1];go_wp2_with fail;rw[Qa];go_wp2_with fail;refine(Z0 _ _).mono ?_;rintro e w' ⟨rfl,rfl⟩;rw[f2];go_wp2_with fail;go_ret3
 exact⟨rfl,hB⟩
theorem Z8i (s:ByteArray)(k:Nat)(w:World)(hs:s.size≤9223372036854775807)(hk:k<s.size)(b0:Int)(hb0:(s[k].toNat:Int)=b0)(h0:224≤b0)(h1:b0<240)(hm:k+3≤s.size)(c1 c2:Int)(hc1:byt s (k+1+0)=c1)(lo1:0≤c1)(hi1:c1≤255)(hc2:byt s (k+1+1)=c2)(lo2:0≤c2)(hi2:c2≤255)(f1:Zf c1=true)(f2:Zf c2=true)(hr:Zx (((b0 - 224)*64+c1 % 64)*64+c2 % 64)=false):
  Calls prog 137 #[.string s,.int .i64 k] w fun e w'=>e= .returned (.tuple #[.int .i64 0,.int .i64 0,.int .i64 1])∧Below w.heap.size w w':=by
 have hsh:Zy b0=b0 - 224:=by unfold Zy;rw[if_neg (by omega),if_neg (by omega),if_neg (by omega),if_pos (by omega)]
 have hsz:Z9 b0=3:=by unfold Z9;rw[if_neg (by omega),if_neg (by omega),if_neg (by omega),if_pos (by omega)]
 obtain⟨cap,W,hconv,hB,hcell⟩:=Zbf w s (k+1) (k+3) 2 (by omega) hm;have g1:W.cell? ⟨w.heap.size,0,none⟩=some (.int .u8 c1):=by rw[hcell 0 (by omega),hc1]
 have a1:bits .and .u8 c1 63=c1 % 64:=Jd _ lo1 hi1;have g2:W.cell? ⟨w.heap.size,1,none⟩=some (.int .u8 c2):=by rw[hcell 1 (by omega),hc2]
 have a2:bits .and .u8 c2 63=c2 % 64:=Jd _ lo2 hi2;have o1:bits .or .i64 ((b0 - 224)*64) (c1 % 64)=(b0 - 224)*64+c1 % 64:=Zap _ _ (by omega) (by omega) (by omega) (by omega);have o2:bits .or .i64 (((b0 - 224)*64+c1 % 64)*64) (c2 % 64)=((b0 - 224)*64+c1 % 64)*64+c2 % 64:=Zap _ _ (by omega) (by omega) (by omega) (by omega);clear hcell hc1 hc2;go_enter func137,ntmps137;go_wp2_with fail;refine(Zaa _ _ (by omega) (by omega)).mono ?_;rintro e w' ⟨rfl,rfl⟩;rw[hsh,hsz];clear hsh hsz;go_wp2_with fail;refine Qb 3 ?_;rw[Qa];go_wp2_with fail;refine(Z0 _ _).mono ?_;rintro e w' ⟨rfl,rfl⟩;rw[f1];go_wp2_with fail;rw[Qa];go_wp2_with fail;refine(Z0 _ _).mono ?_;rintro e w' ⟨rfl,rfl⟩;rw[f2];go_wp2_with fail;rw[Qa];go_wp2_with fail;refine(Zb9 _ _).mono ?_;rintro e w' ⟨rfl,rfl⟩;rw[hr];go_wp2_with fail;go_ret3
 exact⟨rfl,hB⟩
theorem Z8j (s:ByteArray)(k:Nat)(w:World)(hs:s.size≤9223372036854775807)(hk:k<s.size)(b0:Int)(hb0:(s[k].toNat:Int)=b0)(h0:224≤b0)(h1:b0<240)(hm:k+3≤s.size)(c1 c2:Int)(hc1:byt s (k+1+0)=c1)(lo1:0≤c1)(hi1:c1≤255)(hc2:byt s (k+1+1)=c2)(lo2:0≤c2)(hi2:c2≤255)(f1:Zf c1=true)(f2:Zf c2=true)(hr:Zx (((b0 - 224)*64+c1 % 64)*64+c2 % 64)=true)(hw:wid (((b0 - 224)*64+c1 % 64)*64+c2 % 64)≠3):
  Calls prog 137 #[.string s,.int .i64 k] w fun e w'=>e= .returned (.tuple #[.int .i64 0,.int .i64 0,.int .i64 1])∧Below w.heap.size w w':=by
 obtain⟨x,hx⟩:∃x:Nat,wid (((b0 - 224)*64+c1 % 64)*64+c2 % 64)=x:=⟨_,rfl⟩;rw[hx]at hw;have hne:((x:Int)==3)=false:=by simp;omega
 have hsh:Zy b0=b0 - 224:=by unfold Zy;rw[if_neg (by omega),if_neg (by omega),if_neg (by omega),if_pos (by omega)]
 have hsz:Z9 b0=3:=by unfold Z9;rw[if_neg (by omega),if_neg (by omega),if_neg (by omega),if_pos (by omega)]
 obtain⟨cap,W,hconv,hB,hcell⟩:=Zbf w s (k+1) (k+3) 2 (by omega) hm;have g1:W.cell? ⟨w.heap.size,0,none⟩=some (.int .u8 c1):=by rw[hcell 0 (by omega),hc1]
 have a1:bits .and .u8 c1 63=c1 % 64:=Jd _ lo1 hi1;have g2:W.cell? ⟨w.heap.size,1,none⟩=some (.int .u8 c2):=by rw[hcell 1 (by omega),hc2]
 have a2:bits .and .u8 c2 63=c2 % 64:=Jd _ lo2 hi2;have o1:bits .or .i64 ((b0 - 224)*64) (c1 % 64)=(b0 - 224)*64+c1 % 64:=Zap _ _ (by omega) (by omega) (by omega) (by omega);have o2:bits .or .i64 (((b0 - 224)*64+c1 % 64)*64) (c2 % 64)=((b0 - 224)*64+c1 % 64)*64+c2 % 64:=Zap _ _ (by omega) (by omega) (by omega) (by omega);clear hcell hc1 hc2;go_enter func137,ntmps137;go_wp2_with fail;refine(Zaa _ _ (by omega) (by omega)).mono ?_;rintro e w' ⟨rfl,rfl⟩;rw[hsh,hsz];clear hsh hsz;go_wp2_with fail;refine Qb 3 ?_;rw[Qa];go_wp2_with fail;refine(Z0 _ _).mono ?_;rintro e w' ⟨rfl,rfl⟩;rw[f1];go_wp2_with fail;rw[Qa];go_wp2_with fail;refine(Z0 _ _).mono ?_;rintro e w' ⟨rfl,rfl⟩;rw[f2];go_wp2_with fail;rw[Qa];go_wp2_with fail;refine(Zb9 _ _).mono ?_;rintro e w' ⟨rfl,rfl⟩;rw[hr];go_wp2_with fail;refine(Zfv _ _).mono ?_;rintro e w' ⟨rfl,rfl⟩;rw[hx];clear hx;go_wp2_with fail;go_ret3
 exact⟨rfl,hB⟩
theorem Z7u (s:ByteArray)(k:Nat)(w:World)(hs:s.size≤9223372036854775807)(hk:k<s.size)(b0:Int)(hb0:(s[k].toNat:Int)=b0)(h0:224≤b0)(h1:b0<240)(hm:k+3≤s.size)(c1 c2:Int)(hc1:byt s (k+1+0)=c1)(lo1:0≤c1)(hi1:c1≤255)(hc2:byt s (k+1+1)=c2)(lo2:0≤c2)(hi2:c2≤255)(f1:Zf c1=true)(f2:Zf c2=true)(hr:Zx (((b0 - 224)*64+c1 % 64)*64+c2 % 64)=true)(hw:wid (((b0 - 224)*64+c1 % 64)*64+c2 % 64)=3):
  Calls prog 137 #[.string s,.int .i64 k] w fun e w'=>e= .returned (.tuple #[.int .i64 (((b0 - 224)*64+c1 % 64)*64+c2 % 64),.int .i64 3,.int .i64 0])∧Below w.heap.size w w':=by
 have hsh:Zy b0=b0 - 224:=by unfold Zy;rw[if_neg (by omega),if_neg (by omega),if_neg (by omega),if_pos (by omega)]
 have hsz:Z9 b0=3:=by unfold Z9;rw[if_neg (by omega),if_neg (by omega),if_neg (by omega),if_pos (by omega)]
 obtain⟨cap,W,hconv,hB,hcell⟩:=Zbf w s (k+1) (k+3) 2 (by omega) hm;have g1:W.cell? ⟨w.heap.size,0,none⟩=some (.int .u8 c1):=by rw[hcell 0 (by omega),hc1]
 have a1:bits .and .u8 c1 63=c1 % 64:=Jd _ lo1 hi1;have g2:W.cell? ⟨w.heap.size,1,none⟩=some (.int .u8 c2):=by rw[hcell 1 (by omega),hc2]
 have a2:bits .and .u8 c2 63=c2 % 64:=Jd _ lo2 hi2;have o1:bits .or .i64 ((b0 - 224)*64) (c1 % 64)=(b0 - 224)*64+c1 % 64:=Zap _ _ (by omega) (by omega) (by omega) (by omega);have o2:bits .or .i64 (((b0 - 224)*64+c1 % 64)*64) (c2 % 64)=((b0 - 224)*64+c1 % 64)*64+c2 % 64:=Zap _ _ (by omega) (by omega) (by omega) (by omega);clear hcell hc1 hc2;go_enter func137,ntmps137;go_wp2_with fail;refine(Zaa _ _ (by omega) (by omega)).mono ?_;rintro e w' ⟨rfl,rfl⟩;rw[hsh,hsz];clear hsh hsz;go_wp2_with fail;refine Qb 3 ?_;rw[Qa];go_wp2_with fail;refine(Z0 _ _).mono ?_;rintro e w' ⟨rfl,rfl⟩;rw[f1];go_wp2_with fail;rw[Qa];go_wp2_with fail;refine(Z0 _ _).mono ?_;rintro e w' ⟨rfl,rfl⟩;rw[f2];go_wp2_with fail;rw[Qa];go_wp2_with fail;refine(Zb9 _ _).mono ?_;rintro e w' ⟨rfl,rfl⟩;rw[hr];go_wp2_with fail;refine(Zfv _ _).mono ?_;rintro e w' ⟨rfl,rfl⟩;rw[hw];go_wp2_with fail;go_ret3
 exact⟨rfl,hB⟩
theorem Z7v (s:ByteArray)(k:Nat)(w:World)(hs:s.size≤9223372036854775807)(hk:k<s.size)(b0:Int)(hb0:(s[k].toNat:Int)=b0)(h0:240≤b0)(h1:b0<248)(hm:k+4≤s.size)(c1 c2 c3:Int)(hc1:byt s (k+1+0)=c1)(lo1:0≤c1)(hi1:c1≤255)(hc2:byt s (k+1+1)=c2)(lo2:0≤c2)(hi2:c2≤255)(hc3:byt s (k+1+2)=c3)(lo3:0≤c3)(hi3:c3≤255)(f1:Zf c1=false):
  Calls prog 137 #[.string s,.int .i64 k] w fun e w'=>e= .returned (.tuple #[.int .i64 0,.int .i64 0,.int .i64 1])∧Below w.heap.size w w':=by
 have hsh:Zy b0=b0 - 240:=by unfold Zy;rw[if_neg (by omega),if_neg (by omega),if_pos (by omega)]
 have hsz:Z9 b0=4:=by unfold Z9;rw[if_neg (by omega),if_neg (by omega),if_pos (by omega)]
 obtain⟨cap,W,hconv,hB,hcell⟩:=Zbf w s (k+1) (k+4) 3 (by omega) hm;have g1:W.cell? ⟨w.heap.size,0,none⟩=some (.int .u8 c1):=by rw[hcell 0 (by omega),hc1]
 have a1:bits .and .u8 c1 63=c1 % 64:=Jd _ lo1 hi1;have g2:W.cell? ⟨w.heap.size,1,none⟩=some (.int .u8 c2):=by rw[hcell 1 (by omega),hc2]
 have a2:bits .and .u8 c2 63=c2 % 64:=Jd _ lo2 hi2;have g3:W.cell? ⟨w.heap.size,2,none⟩=some (.int .u8 c3):=by rw[hcell 2 (by omega),hc3]
 have a3:bits .and .u8 c3 63=c3 % 64:=Jd _ lo3 hi3;have o1:bits .or .i64 ((b0 - 240)*64) (c1 % 64)=(b0 - 240)*64+c1 % 64:=Zap _ _ (by omega) (by omega) (by omega) (by omega);have o2:bits .or .i64 (((b0 - 240)*64+c1 % 64)*64) (c2 % 64)=((b0 - 240)*64+c1 % 64)*64+c2 % 64:=Zap _ _ (by omega) (by omega) (by omega) (by omega);have o3:bits .or .i64 ((((b0 - 240)*64+c1 % 64)*64+c2 % 64)*64) (c3 % 64)=(((b0 - 240)*64+c1 % 64)*64+c2 % 64)*64+c3 % 64:=Zap _ _ (by omega) (by omega) (by omega) (by omega);clear hcell hc1 hc2 hc3;go_enter func137,ntmps137;go_wp2_with fail;refine(Zaa _ _ (by omega) (by omega)).mono ?_;rintro e w' ⟨rfl,rfl⟩;rw[hsh,hsz];clear hsh hsz;go_wp2_with fail;refine Qb 4 ?_;rw[Qa];go_wp2_with fail;refine(Z0 _ _).mono ?_;rintro e w' ⟨rfl,rfl⟩;rw[f1];go_wp2_with fail;go_ret3
 exact⟨rfl,hB⟩
theorem Z7w (s:ByteArray)(k:Nat)(w:World)(hs:s.size≤9223372036854775807)(hk:k<s.size)(b0:Int)(hb0:(s[k].toNat:Int)=b0)(h0:240≤b0)(h1:b0<248)(hm:k+4≤s.size)(c1 c2 c3:Int)(hc1:byt s (k+1+0)=c1)(lo1:0≤c1)(hi1:c1≤255)(hc2:byt s (k+1+1)=c2)(lo2:0≤c2)(hi2:c2≤255)(hc3:byt s (k+1+2)=c3)(lo3:0≤c3)(hi3:c3≤255)(f1:Zf c1=true)(f2:Zf c2=false):
  Calls prog 137 #[.string s,.int .i64 k] w fun e w'=>e= .returned (.tuple #[.int .i64 0,.int .i64 0,.int .i64 1])∧Below w.heap.size w w':=by
 have hsh:Zy b0=b0 - 240:=by unfold Zy;rw[if_neg (by omega),if_neg (by omega),if_pos (by omega)]
 have hsz:Z9 b0=4:=by unfold Z9;rw[if_neg (by omega),if_neg (by omega),if_pos (by omega)]
 obtain⟨cap,W,hconv,hB,hcell⟩:=Zbf w s (k+1) (k+4) 3 (by omega) hm;have g1:W.cell? ⟨w.heap.size,0,none⟩=some (.int .u8 c1):=by rw[hcell 0 (by omega),hc1]
 have a1:bits .and .u8 c1 63=c1 % 64:=Jd _ lo1 hi1;have g2:W.cell? ⟨w.heap.size,1,none⟩=some (.int .u8 c2):=by rw[hcell 1 (by omega),hc2]
 have a2:bits .and .u8 c2 63=c2 % 64:=Jd _ lo2 hi2;have g3:W.cell? ⟨w.heap.size,2,none⟩=some (.int .u8 c3):=by rw[hcell 2 (by omega),hc3]
 have a3:bits .and .u8 c3 63=c3 % 64:=Jd _ lo3 hi3;have o1:bits .or .i64 ((b0 - 240)*64) (c1 % 64)=(b0 - 240)*64+c1 % 64:=Zap _ _ (by omega) (by omega) (by omega) (by omega);have o2:bits .or .i64 (((b0 - 240)*64+c1 % 64)*64) (c2 % 64)=((b0 - 240)*64+c1 % 64)*64+c2 % 64:=Zap _ _ (by omega) (by omega) (by omega) (by omega);have o3:bits .or .i64 ((((b0 - 240)*64+c1 % 64)*64+c2 % 64)*64) (c3 % 64)=(((b0 - 240)*64+c1 % 64)*64+c2 % 64)*64+c3 % 64:=Zap _ _ (by omega) (by omega) (by omega) (by omega);clear hcell hc1 hc2 hc3;go_enter func137,ntmps137;go_wp2_with fail;refine(Zaa _ _ (by omega) (by omega)).mono ?_;rintro e w' ⟨rfl,rfl⟩;rw[hsh,hsz];clear hsh hsz;go_wp2_with fail;refine Qb 4 ?_;rw[Qa];go_wp2_with fail;refine(Z0 _ _).mono ?_;rintro e w' ⟨rfl,rfl⟩;rw[f1];go_wp2_with fail;rw[Qa];go_wp2_with fail;refine(Z0 _ _).mono ?_;rintro e w' ⟨rfl,rfl⟩;rw[f2];go_wp2_with fail;go_ret3
 exact⟨rfl,hB⟩
theorem Z7x (s:ByteArray)(k:Nat)(w:World)(hs:s.size≤9223372036854775807)(hk:k<s.size)(b0:Int)(hb0:(s[k].toNat:Int)=b0)(h0:240≤b0)(h1:b0<248)(hm:k+4≤s.size)(c1 c2 c3:Int)(hc1:byt s (k+1+0)=c1)(lo1:0≤c1)(hi1:c1≤255)(hc2:byt s (k+1+1)=c2)(lo2:0≤c2)(hi2:c2≤255)(hc3:byt s (k+1+2)=c3)(lo3:0≤c3)(hi3:c3≤255)(f1:Zf c1=true)(f2:Zf c2=true)(f3:Zf c3=false):
  Calls prog 137 #[.string s,.int .i64 k] w fun e w'=>e= .returned (.tuple #[.int .i64 0,.int .i64 0,.int .i64 1])∧Below w.heap.size w w':=by
 have hsh:Zy b0=b0 - 240:=by unfold Zy;rw[if_neg (by omega),if_neg (by omega),if_pos (by omega)]
 have hsz:Z9 b0=4:=by unfold Z9;rw[if_neg (by omega),if_neg (by omega),if_pos (by omega)]
 obtain⟨cap,W,hconv,hB,hcell⟩:=Zbf w s (k+1) (k+4) 3 (by omega) hm;have g1:W.cell? ⟨w.heap.size,0,none⟩=some (.int .u8 c1):=by rw[hcell 0 (by omega),hc1]
 have a1:bits .and .u8 c1 63=c1 % 64:=Jd _ lo1 hi1;have g2:W.cell? ⟨w.heap.size,1,none⟩=some (.int .u8 c2):=by rw[hcell 1 (by omega),hc2]
 have a2:bits .and .u8 c2 63=c2 % 64:=Jd _ lo2 hi2;have g3:W.cell? ⟨w.heap.size,2,none⟩=some (.int .u8 c3):=by rw[hcell 2 (by omega),hc3]
 have a3:bits .and .u8 c3 63=c3 % 64:=Jd _ lo3 hi3;have o1:bits .or .i64 ((b0 - 240)*64) (c1 % 64)=(b0 - 240)*64+c1 % 64:=Zap _ _ (by omega) (by omega) (by omega) (by omega);have o2:bits .or .i64 (((b0 - 240)*64+c1 % 64)*64) (c2 % 64)=((b0 - 240)*64+c1 % 64)*64+c2 % 64:=Zap _ _ (by omega) (by omega) (by omega) (by omega);have o3:bits .or .i64 ((((b0 - 240)*64+c1 % 64)*64+c2 % 64)*64) (c3 % 64)=(((b0 - 240)*64+c1 % 64)*64+c2 % 64)*64+c3 % 64:=Zap _ _ (by omega) (by omega) (by omega) (by omega);clear hcell hc1 hc2 hc3;go_enter func137,ntmps137;go_wp2_with fail;refine(Zaa _ _ (by omega) (by omega)).mono ?_;rintro e w' ⟨rfl,rfl⟩;rw[hsh,hsz];clear hsh hsz;go_wp2_with fail;refine Qb 4 ?_;rw[Qa];go_wp2_with fail;refine(Z0 _ _).mono ?_;rintro e w' ⟨rfl,rfl⟩;rw[f1];go_wp2_with fail;rw[Qa];go_wp2_with fail;refine(Z0 _ _).mono ?_;rintro e w' ⟨rfl,rfl⟩;rw[f2];go_wp2_with fail;rw[Qa];go_wp2_with fail;refine(Z0 _ _).mono ?_;rintro e w' ⟨rfl,rfl⟩;rw[f3];go_wp2_with fail;go_ret3
 exact⟨rfl,hB⟩
theorem Z8k (s:ByteArray)(k:Nat)(w:World)(hs:s.size≤9223372036854775807)(hk:k<s.size)(b0:Int)(hb0:(s[k].toNat:Int)=b0)(h0:240≤b0)(h1:b0<248)(hm:k+4≤s.size)(c1 c2 c3:Int)(hc1:byt s (k+1+0)=c1)(lo1:0≤c1)(hi1:c1≤255)(hc2:byt s (k+1+1)=c2)(lo2:0≤c2)(hi2:c2≤255)(hc3:byt s (k+1+2)=c3)(lo3:0≤c3)(hi3:c3≤255)(f1:Zf c1=true)(f2:Zf c2=true)(f3:Zf c3=true)(hr:Zx ((((b0 - 240)*64+c1 % 64)*64+c2 % 64)*64+c3 % 64)=false):
  Calls prog 137 #[.string s,.int .i64 k] w fun e w'=>e= .returned (.tuple #[.int .i64 0,.int .i64 0,.int .i64 1])∧Below w.heap.size w w':=by
 have hsh:Zy b0=b0 - 240:=by unfold Zy;rw[if_neg (by omega),if_neg (by omega),if_pos (by omega)]
 have hsz:Z9 b0=4:=by unfold Z9;rw[if_neg (by omega),if_neg (by omega),if_pos (by omega)]
 obtain⟨cap,W,hconv,hB,hcell⟩:=Zbf w s (k+1) (k+4) 3 (by omega) hm;have g1:W.cell? ⟨w.heap.size,0,none⟩=some (.int .u8 c1):=by rw[hcell 0 (by omega),hc1]
 have a1:bits .and .u8 c1 63=c1 % 64:=Jd _ lo1 hi1;have g2:W.cell? ⟨w.heap.size,1,none⟩=some (.int .u8 c2):=by rw[hcell 1 (by omega),hc2]
 have a2:bits .and .u8 c2 63=c2 % 64:=Jd _ lo2 hi2;have g3:W.cell? ⟨w.heap.size,2,none⟩=some (.int .u8 c3):=by rw[hcell 2 (by omega),hc3]
 have a3:bits .and .u8 c3 63=c3 % 64:=Jd _ lo3 hi3;have o1:bits .or .i64 ((b0 - 240)*64) (c1 % 64)=(b0 - 240)*64+c1 % 64:=Zap _ _ (by omega) (by omega) (by omega) (by omega);have o2:bits .or .i64 (((b0 - 240)*64+c1 % 64)*64) (c2 % 64)=((b0 - 240)*64+c1 % 64)*64+c2 % 64:=Zap _ _ (by omega) (by omega) (by omega) (by omega);have o3:bits .or .i64 ((((b0 - 240)*64+c1 % 64)*64+c2 % 64)*64) (c3 % 64)=(((b0 - 240)*64+c1 % 64)*64+c2 % 64)*64+c3 % 64:=Zap _ _ (by omega) (by omega) (by omega) (by omega);clear hcell hc1 hc2 hc3;go_enter func137,ntmps137;go_wp2_with fail;refine(Zaa _ _ (by omega) (by omega)).mono ?_;rintro e w' ⟨rfl,rfl⟩;rw[hsh,hsz];clear hsh hsz;go_wp2_with fail;refine Qb 4 ?_;rw[Qa];go_wp2_with fail;refine(Z0 _ _).mono ?_;rintro e w' ⟨rfl,rfl⟩;rw[f1];go_wp2_with fail;rw[Qa];go_wp2_with fail;refine(Z0 _ _).mono ?_;rintro e w' ⟨rfl,rfl⟩;rw[f2];go_wp2_with fail;rw[Qa];go_wp2_with fail;refine(Z0 _ _).mono ?_;rintro e w' ⟨rfl,rfl⟩;rw[f3];go_wp2_with fail;rw[Qa];go_wp2_with fail;refine(Zb9 _ _).mono ?_;rintro e w' ⟨rfl,rfl⟩;rw[hr];go_wp2_with fail;go_ret3
 exact⟨rfl,hB⟩
theorem Z8l (s:ByteArray)(k:Nat)(w:World)(hs:s.size≤9223372036854775807)(hk:k<s.size)(b0:Int)(hb0:(s[k].toNat:Int)=b0)(h0:240≤b0)(h1:b0<248)(hm:k+4≤s.size)(c1 c2 c3:Int)(hc1:byt s (k+1+0)=c1)(lo1:0≤c1)(hi1:c1≤255)(hc2:byt s (k+1+1)=c2)(lo2:0≤c2)(hi2:c2≤255)(hc3:byt s (k+1+2)=c3)(lo3:0≤c3)(hi3:c3≤255)(f1:Zf c1=true)(f2:Zf c2=true)(f3:Zf c3=true)(hr:Zx ((((b0 - 240)*64+c1 % 64)*64+c2 % 64)*64+c3 % 64)=true)(hw:wid ((((b0 - 240)*64+c1 % 64)*64+c2 % 64)*64+c3 % 64)≠4):
  Calls prog 137 #[.string s,.int .i64 k] w fun e w'=>e= .returned (.tuple #[.int .i64 0,.int .i64 0,.int .i64 1])∧Below w.heap.size w w':=by
 obtain⟨x,hx⟩:∃x:Nat,wid ((((b0 - 240)*64+c1 % 64)*64+c2 % 64)*64+c3 % 64)=x:=⟨_,rfl⟩;rw[hx]at hw;have hne:((x:Int)==4)=false:=by simp;omega
 have hsh:Zy b0=b0 - 240:=by unfold Zy;rw[if_neg (by omega),if_neg (by omega),if_pos (by omega)]
 have hsz:Z9 b0=4:=by unfold Z9;rw[if_neg (by omega),if_neg (by omega),if_pos (by omega)]
 obtain⟨cap,W,hconv,hB,hcell⟩:=Zbf w s (k+1) (k+4) 3 (by omega) hm;have g1:W.cell? ⟨w.heap.size,0,none⟩=some (.int .u8 c1):=by rw[hcell 0 (by omega),hc1]
 have a1:bits .and .u8 c1 63=c1 % 64:=Jd _ lo1 hi1;have g2:W.cell? ⟨w.heap.size,1,none⟩=some (.int .u8 c2):=by rw[hcell 1 (by omega),hc2]
 have a2:bits .and .u8 c2 63=c2 % 64:=Jd _ lo2 hi2;have g3:W.cell? ⟨w.heap.size,2,none⟩=some (.int .u8 c3):=by rw[hcell 2 (by omega),hc3]
 have a3:bits .and .u8 c3 63=c3 % 64:=Jd _ lo3 hi3;have o1:bits .or .i64 ((b0 - 240)*64) (c1 % 64)=(b0 - 240)*64+c1 % 64:=Zap _ _ (by omega) (by omega) (by omega) (by omega);have o2:bits .or .i64 (((b0 - 240)*64+c1 % 64)*64) (c2 % 64)=((b0 - 240)*64+c1 % 64)*64+c2 % 64:=Zap _ _ (by omega) (by omega) (by omega) (by omega);have o3:bits .or .i64 ((((b0 - 240)*64+c1 % 64)*64+c2 % 64)*64) (c3 % 64)=(((b0 - 240)*64+c1 % 64)*64+c2 % 64)*64+c3 % 64:=Zap _ _ (by omega) (by omega) (by omega) (by omega);clear hcell hc1 hc2 hc3;go_enter func137,ntmps137;go_wp2_with fail;refine(Zaa _ _ (by omega) (by omega)).mono ?_;rintro e w' ⟨rfl,rfl⟩;rw[hsh,hsz];clear hsh hsz;go_wp2_with fail;refine Qb 4 ?_;rw[Qa];go_wp2_with fail;refine(Z0 _ _).mono ?_;rintro e w' ⟨rfl,rfl⟩;rw[f1];go_wp2_with fail;rw[Qa];go_wp2_with fail;refine(Z0 _ _).mono ?_;rintro e w' ⟨rfl,rfl⟩;rw[f2];go_wp2_with fail;rw[Qa];go_wp2_with fail;refine(Z0 _ _).mono ?_;rintro e w' ⟨rfl,rfl⟩;rw[f3];go_wp2_with fail;rw[Qa];go_wp2_with fail;refine(Zb9 _ _).mono ?_;rintro e w' ⟨rfl,rfl⟩;rw[hr];go_wp2_with fail;refine(Zfv _ _).mono ?_;rintro e w' ⟨rfl,rfl⟩;rw[hx];clear hx;go_wp2_with fail;go_ret3
 exact⟨rfl,hB⟩
theorem Z7y (s:ByteArray)(k:Nat)(w:World)(hs:s.size≤9223372036854775807)(hk:k<s.size)(b0:Int)(hb0:(s[k].toNat:Int)=b0)(h0:240≤b0)(h1:b0<248)(hm:k+4≤s.size)(c1 c2 c3:Int)(hc1:byt s (k+1+0)=c1)(lo1:0≤c1)(hi1:c1≤255)(hc2:byt s (k+1+1)=c2)(lo2:0≤c2)(hi2:c2≤255)(hc3:byt s (k+1+2)=c3)(lo3:0≤c3)(hi3:c3≤255)(f1:Zf c1=true)(f2:Zf c2=true)(f3:Zf c3=true)(hr:Zx ((((b0 - 240)*64+c1 % 64)*64+c2 % 64)*64+c3 % 64)=true)(hw:wid ((((b0 - 240)*64+c1 % 64)*64+c2 % 64)*64+c3 % 64)=4):
  Calls prog 137 #[.string s,.int .i64 k] w fun e w'=>e= .returned (.tuple #[.int .i64 ((((b0 - 240)*64+c1 % 64)*64+c2 % 64)*64+c3 % 64),.int .i64 4,.int .i64 0])∧Below w.heap.size w w':=by
 have hsh:Zy b0=b0 - 240:=by unfold Zy;rw[if_neg (by omega),if_neg (by omega),if_pos (by omega)]
 have hsz:Z9 b0=4:=by unfold Z9;rw[if_neg (by omega),if_neg (by omega),if_pos (by omega)]
 obtain⟨cap,W,hconv,hB,hcell⟩:=Zbf w s (k+1) (k+4) 3 (by omega) hm;have g1:W.cell? ⟨w.heap.size,0,none⟩=some (.int .u8 c1):=by rw[hcell 0 (by omega),hc1]
 have a1:bits .and .u8 c1 63=c1 % 64:=Jd _ lo1 hi1;have g2:W.cell? ⟨w.heap.size,1,none⟩=some (.int .u8 c2):=by rw[hcell 1 (by omega),hc2]
 have a2:bits .and .u8 c2 63=c2 % 64:=Jd _ lo2 hi2;have g3:W.cell? ⟨w.heap.size,2,none⟩=some (.int .u8 c3):=by rw[hcell 2 (by omega),hc3]
 have a3:bits .and .u8 c3 63=c3 % 64:=Jd _ lo3 hi3;have o1:bits .or .i64 ((b0 - 240)*64) (c1 % 64)=(b0 - 240)*64+c1 % 64:=Zap _ _ (by omega) (by omega) (by omega) (by omega);have o2:bits .or .i64 (((b0 - 240)*64+c1 % 64)*64) (c2 % 64)=((b0 - 240)*64+c1 % 64)*64+c2 % 64:=Zap _ _ (by omega) (by omega) (by omega) (by omega);have o3:bits .or .i64 ((((b0 - 240)*64+c1 % 64)*64+c2 % 64)*64) (c3 % 64)=(((b0 - 240)*64+c1 % 64)*64+c2 % 64)*64+c3 % 64:=Zap _ _ (by omega) (by omega) (by omega) (by omega);clear hcell hc1 hc2 hc3;go_enter func137,ntmps137;go_wp2_with fail;refine(Zaa _ _ (by omega) (by omega)).mono ?_;rintro e w' ⟨rfl,rfl⟩;rw[hsh,hsz];clear hsh hsz;go_wp2_with fail;refine Qb 4 ?_;rw[Qa];go_wp2_with fail;refine(Z0 _ _).mono ?_;rintro e w' ⟨rfl,rfl⟩;rw[f1];go_wp2_with fail;rw[Qa];go_wp2_with fail;refine(Z0 _ _).mono ?_;rintro e w' ⟨rfl,rfl⟩;rw[f2];go_wp2_with fail;rw[Qa];go_wp2_with fail;refine(Z0 _ _).mono ?_;rintro e w' ⟨rfl,rfl⟩;rw[f3];go_wp2_with fail;rw[Qa];go_wp2_with fail;refine(Zb9 _ _).mono ?_;rintro e w' ⟨rfl,rfl⟩;rw[hr];go_wp2_with fail;refine(Zfv _ _).mono ?_;rintro e w' ⟨rfl,rfl⟩;rw[hw];go_wp2_with fail;go_ret3
 exact⟨rfl,hB⟩
def Zxc:Option Int→Value
 | none=> .tuple #[.int .i64 0,.int .i64 0,.int .i64 1]
 | some n=> .tuple #[.int .i64 n,.int .i64 (wid n),.int .i64 0]
theorem Zf3 (n:Int):Zxc (some n)= .tuple #[.int .i64 n,.int .i64 (wid n),.int .i64 0]:=rfl
theorem Zgv (b c1 c2 c3:Int)(t:List Int):Zox b (c1::c2::c3::t)=if Zf c1 && (Zf c2 && (Zf c3 && okB 4 ((((b - 240)*64+c1 % 64)*64+c2 % 64)*64+c3 % 64)))then some ((((b - 240)*64+c1 % 64)*64+c2 % 64)*64+c3 % 64)else none:=rfl
theorem Zie (b c1 c2:Int)(t:List Int):Zow b (c1::c2::t)=if Zf c1 && (Zf c2 && okB 3 (((b - 224)*64+c1 % 64)*64+c2 % 64))then some (((b - 224)*64+c1 % 64)*64+c2 % 64)else none:=rfl
theorem Zj9 (b c1:Int)(t:List Int):Zov b (c1::t)=if Zf c1 && okB 2 ((b - 192)*64+c1 % 64)then some ((b - 192)*64+c1 % 64)else none:=rfl
theorem Zo5 (s:ByteArray)(k:Nat)(w:World)(hs:s.size≤9223372036854775807)(hk:k<s.size):
  Calls prog 137 #[.string s,.int .i64 k] w fun e w'=>e= .returned (Zxc (dec ((Zm s).drop k)))∧Below w.heap.size w w':=by
 have hb0:=Zds s k hk;have lo:=Zcg s k;have hi:=Zcr s k;rw[Zfi s k hk];generalize byt s k=b0 at*
 by_cases c1:b0<128
 ·rw[Z3c c1];rw[Zf3,Z3i (show b0≤127 by omega)];exact Z7p s k w hs hk b0 hb0 lo c1
 by_cases c2:b0<192∨248≤b0
 ·rw[Z79 (by omega)];exact Z8u s k w hs hk b0 hb0 lo hi (by omega)
 by_cases d4:240≤b0
 ·rw[Z3f d4 (by omega)];by_cases hm:k+4≤s.size
  ·rw[Zfi s (k+1) (by omega),Zfi s (k+1+1) (by omega),Zfi s (k+1+1+1) (by omega)];obtain⟨x1,e1⟩:∃x,byt s (k+1+0)=x:=⟨_,rfl⟩;have l1:0≤x1:=e1 ▸ Zcg s _;have h1:x1≤255:=e1 ▸ Zcr s _;obtain⟨x2,e2⟩:∃x,byt s (k+1+1)=x:=⟨_,rfl⟩;have l2:0≤x2:=e2 ▸ Zcg s _;have h2:x2≤255:=e2 ▸ Zcr s _;obtain⟨x3,e3⟩:∃x,byt s (k+1+2)=x:=⟨_,rfl⟩;have l3:0≤x3:=e3 ▸ Zcg s _;have h3:x3≤255:=e3 ▸ Zcr s _;rw[show byt s (k+1)=x1 from e1,show byt s (k+1+1)=x2 from e2,show byt s (k+1+1+1)=x3 from e3];cases f1:Zf x1 with
   | false=>
    have hc: ¬ (Zf x1 && (Zf x2 && (Zf x3 && okB 4 ((((b0 - 240)*64+x1 % 64)*64+x2 % 64)*64+x3 % 64))))=true:=by simp[f1]
    rw[Zgv,if_neg hc];exact Z7v s k w hs hk b0 hb0 d4 (by omega) hm x1 x2 x3 e1 l1 h1 e2 l2 h2 e3 l3 h3 f1
   | true=>
    cases f2:Zf x2 with
    | false=>
     have hc: ¬ (Zf x1 && (Zf x2 && (Zf x3 && okB 4 ((((b0 - 240)*64+x1 % 64)*64+x2 % 64)*64+x3 % 64))))=true:=by simp[f1,f2]
     rw[Zgv,if_neg hc];exact Z7w s k w hs hk b0 hb0 d4 (by omega) hm x1 x2 x3 e1 l1 h1 e2 l2 h2 e3 l3 h3 f1 f2
    | true=>
     cases f3:Zf x3 with
     | false=>
      have hc: ¬ (Zf x1 && (Zf x2 && (Zf x3 && okB 4 ((((b0 - 240)*64+x1 % 64)*64+x2 % 64)*64+x3 % 64))))=true:=by simp[f1,f2,f3]
      rw[Zgv,if_neg hc];exact Z7x s k w hs hk b0 hb0 d4 (by omega) hm x1 x2 x3 e1 l1 h1 e2 l2 h2 e3 l3 h3 f1 f2 f3
     | true=>
      cases hr:Zx ((((b0 - 240)*64+x1 % 64)*64+x2 % 64)*64+x3 % 64)with
      | false=>
       have hc: ¬ (Zf x1 && (Zf x2 && (Zf x3 && okB 4 ((((b0 - 240)*64+x1 % 64)*64+x2 % 64)*64+x3 % 64))))=true:=by simp[okB,hr]
       rw[Zgv,if_neg hc];exact Z8k s k w hs hk b0 hb0 d4 (by omega) hm x1 x2 x3 e1 l1 h1 e2 l2 h2 e3 l3 h3 f1 f2 f3 hr
      | true=>
       by_cases hw:wid ((((b0 - 240)*64+x1 % 64)*64+x2 % 64)*64+x3 % 64)=4
       ·have hc:(Zf x1 && (Zf x2 && (Zf x3 && okB 4 ((((b0 - 240)*64+x1 % 64)*64+x2 % 64)*64+x3 % 64))))=true:=by simp[f1,f2,f3,okB,hr,hw]
        rw[Zgv,if_pos hc];rw[Zf3,hw];exact Z7y s k w hs hk b0 hb0 d4 (by omega) hm x1 x2 x3 e1 l1 h1 e2 l2 h2 e3 l3 h3 f1 f2 f3 hr hw
       ·have hc: ¬ (Zf x1 && (Zf x2 && (Zf x3 && okB 4 ((((b0 - 240)*64+x1 % 64)*64+x2 % 64)*64+x3 % 64))))=true:=by simp[okB,hw]
        rw[Zgv,if_neg hc];exact Z8l s k w hs hk b0 hb0 d4 (by omega) hm x1 x2 x3 e1 l1 h1 e2 l2 h2 e3 l3 h3 f1 f2 f3 hr hw
  ·have e:Zox b0 ((Zm s).drop (k+1))=none:=by
    have hl:((Zm s).drop (k+1)).length<3:=by rw[Qh,Jf];omega
    match (Zm s).drop (k+1),hl with
    | [],_=>rfl
    | [_],_=>rfl
    | [_,_],_=>rfl
   rw[e];exact Zzt s k w hs hk b0 hb0 d4 (by omega) (by omega)
 by_cases d3:224≤b0
 ·rw[Z3e d3 (by omega)];by_cases hm:k+3≤s.size
  ·rw[Zfi s (k+1) (by omega),Zfi s (k+1+1) (by omega)];obtain⟨x1,e1⟩:∃x,byt s (k+1+0)=x:=⟨_,rfl⟩;have l1:0≤x1:=e1 ▸ Zcg s _;have h1:x1≤255:=e1 ▸ Zcr s _;obtain⟨x2,e2⟩:∃x,byt s (k+1+1)=x:=⟨_,rfl⟩;have l2:0≤x2:=e2 ▸ Zcg s _;have h2:x2≤255:=e2 ▸ Zcr s _;rw[show byt s (k+1)=x1 from e1,show byt s (k+1+1)=x2 from e2];cases f1:Zf x1 with
   | false=>
    have hc: ¬ (Zf x1 && (Zf x2 && okB 3 (((b0 - 224)*64+x1 % 64)*64+x2 % 64)))=true:=by simp[f1]
    rw[Zie,if_neg hc];exact Z7s s k w hs hk b0 hb0 d3 (by omega) hm x1 x2 e1 l1 h1 e2 l2 h2 f1
   | true=>
    cases f2:Zf x2 with
    | false=>
     have hc: ¬ (Zf x1 && (Zf x2 && okB 3 (((b0 - 224)*64+x1 % 64)*64+x2 % 64)))=true:=by simp[f1,f2]
     rw[Zie,if_neg hc];exact Z7t s k w hs hk b0 hb0 d3 (by omega) hm x1 x2 e1 l1 h1 e2 l2 h2 f1 f2
    | true=>
     cases hr:Zx (((b0 - 224)*64+x1 % 64)*64+x2 % 64)with
     | false=>
      have hc: ¬ (Zf x1 && (Zf x2 && okB 3 (((b0 - 224)*64+x1 % 64)*64+x2 % 64)))=true:=by simp[okB,hr]
      rw[Zie,if_neg hc];exact Z8i s k w hs hk b0 hb0 d3 (by omega) hm x1 x2 e1 l1 h1 e2 l2 h2 f1 f2 hr
     | true=>
      by_cases hw:wid (((b0 - 224)*64+x1 % 64)*64+x2 % 64)=3
      ·have hc:(Zf x1 && (Zf x2 && okB 3 (((b0 - 224)*64+x1 % 64)*64+x2 % 64)))=true:=by simp[f1,f2,okB,hr,hw]
       rw[Zie,if_pos hc];rw[Zf3,hw];exact Z7u s k w hs hk b0 hb0 d3 (by omega) hm x1 x2 e1 l1 h1 e2 l2 h2 f1 f2 hr hw
      ·have hc: ¬ (Zf x1 && (Zf x2 && okB 3 (((b0 - 224)*64+x1 % 64)*64+x2 % 64)))=true:=by simp[okB,hw]
       rw[Zie,if_neg hc];exact Z8j s k w hs hk b0 hb0 d3 (by omega) hm x1 x2 e1 l1 h1 e2 l2 h2 f1 f2 hr hw
  ·have e:Zow b0 ((Zm s).drop (k+1))=none:=by
    have hl:((Zm s).drop (k+1)).length<2:=by rw[Qh,Jf];omega
    match (Zm s).drop (k+1),hl with
    | [],_=>rfl
    | [_],_=>rfl
   rw[e];exact Zzs s k w hs hk b0 hb0 d3 (by omega) (by omega)
 by_cases d2:192≤b0
 ·rw[Z3d d2 (by omega)];by_cases hm:k+2≤s.size
  ·rw[Zfi s (k+1) (by omega)];obtain⟨x1,e1⟩:∃x,byt s (k+1+0)=x:=⟨_,rfl⟩;have l1:0≤x1:=e1 ▸ Zcg s _;have h1:x1≤255:=e1 ▸ Zcr s _;rw[show byt s (k+1)=x1 from e1];cases f1:Zf x1 with
   | false=>
    have hc: ¬ (Zf x1 && okB 2 ((b0 - 192)*64+x1 % 64))=true:=by simp[f1]
    rw[Zj9,if_neg hc];exact Z7q s k w hs hk b0 hb0 d2 (by omega) hm x1 e1 l1 h1 f1
   | true=>
    cases hr:Zx ((b0 - 192)*64+x1 % 64)with
    | false=>
     have hc: ¬ (Zf x1 && okB 2 ((b0 - 192)*64+x1 % 64))=true:=by simp[okB,hr]
     rw[Zj9,if_neg hc];exact Z8g s k w hs hk b0 hb0 d2 (by omega) hm x1 e1 l1 h1 f1 hr
    | true=>
     by_cases hw:wid ((b0 - 192)*64+x1 % 64)=2
     ·have hc:(Zf x1 && okB 2 ((b0 - 192)*64+x1 % 64))=true:=by simp[f1,okB,hr,hw]
      rw[Zj9,if_pos hc];rw[Zf3,hw];exact Z7r s k w hs hk b0 hb0 d2 (by omega) hm x1 e1 l1 h1 f1 hr hw
     ·have hc: ¬ (Zf x1 && okB 2 ((b0 - 192)*64+x1 % 64))=true:=by simp[okB,hw]
      rw[Zj9,if_neg hc];exact Z8h s k w hs hk b0 hb0 d2 (by omega) hm x1 e1 l1 h1 f1 hr hw
  ·have e:Zov b0 ((Zm s).drop (k+1))=none:=by
    have hl:((Zm s).drop (k+1)).length<1:=by rw[Qh,Jf];omega
    match (Zm s).drop (k+1),hl with
    | [],_=>rfl
   rw[e];exact Zzr s k w hs hk b0 hb0 d2 (by omega) (by omega)
 omega
theorem Z7h (t:ByteArray)(w:World)(ht:t.size=1)(b0:Int)(g0:(t[0].toNat:Int)=b0)(lo0:0≤b0)(hi0:b0≤255)(hr:Zx (b0)=false):
  Calls prog 113 #[.string t] w fun e w'=>e= .returned (.int .i64 (-1))∧Below w.heap.size w w':=by
 go_enter func113,ntmps113;go_wp2_with fail;refine Qb 1 ?_;rw[Qa];go_wp2_with fail;refine(Jp _ _).mono ?_;rintro e w' ⟨rfl,rfl⟩;rw[hr];go_wp2_with fail;go_ret;exact⟨rfl,(Qm _ _).alloc Zbv _⟩
theorem Z7i (t:ByteArray)(w:World)(ht:t.size=1)(b0:Int)(g0:(t[0].toNat:Int)=b0)(lo0:0≤b0)(hi0:b0≤255)(hr:Zx (b0)=true)(hs:((enc (b0)).toList==t.toList)=false):
  Calls prog 113 #[.string t] w fun e w'=>e= .returned (.int .i64 (-1))∧Below w.heap.size w w':=by
 have hb:=Jz.1 hr;obtain⟨hb0,hb1, -⟩:=hb;go_enter func113,ntmps113;go_wp2_with fail;refine Qb 1 ?_;rw[Qa];go_wp2_with fail;refine(Jp _ _).mono ?_;rintro e w' ⟨rfl,rfl⟩;rw[hr];go_wp2_with fail;refine(Zd1 _ _ (by omega) (by omega)).mono ?_;rintro e w2 ⟨rfl,hB⟩;go_wp2_with fail;go_ret;exact⟨rfl,((Qm _ _).alloc Zbv _).trans (hB.mono (by simp))⟩
theorem Z5g (t:ByteArray)(w:World)(ht:t.size=1)(b0:Int)(g0:(t[0].toNat:Int)=b0)(lo0:0≤b0)(hi0:b0≤255)(hr:Zx (b0)=true)(hs:((enc (b0)).toList==t.toList)=true):
  Calls prog 113 #[.string t] w fun e w'=>e= .returned (.int .i64 (b0))∧Below w.heap.size w w':=by
 have hb:=Jz.1 hr;obtain⟨hb0,hb1, -⟩:=hb;go_enter func113,ntmps113;go_wp2_with fail;refine Qb 1 ?_;rw[Qa];go_wp2_with fail;refine(Jp _ _).mono ?_;rintro e w' ⟨rfl,rfl⟩;rw[hr];go_wp2_with fail;refine(Zd1 _ _ (by omega) (by omega)).mono ?_;rintro e w2 ⟨rfl,hB⟩;go_wp2_with fail;go_ret;exact⟨rfl,((Qm _ _).alloc Zbv _).trans (hB.mono (by simp))⟩
theorem Z2c (t:ByteArray)(w:World)(ht:t.size=2)(b0 c1:Int)(g0:(t[0].toNat:Int)=b0)(lo0:0≤b0)(hi0:b0≤255)(g1:(t[1].toNat:Int)=c1)(lo1:0≤c1)(hi1:c1≤255)(hn:b0<192):
  Calls prog 113 #[.string t] w fun e w'=>e= .returned (.int .i64 (-1))∧Below w.heap.size w w':=by
 go_enter func113,ntmps113;go_wp2_with fail;go_ret;exact⟨rfl,(Qm _ _).alloc Zbv _⟩
theorem Z7j (t:ByteArray)(w:World)(ht:t.size=2)(b0 c1:Int)(g0:(t[0].toNat:Int)=b0)(lo0:0≤b0)(hi0:b0≤255)(g1:(t[1].toNat:Int)=c1)(lo1:0≤c1)(hi1:c1≤255)(hn:192≤b0)(hr:Zx ((b0 - 192)*64+c1 - 128)=false):
  Calls prog 113 #[.string t] w fun e w'=>e= .returned (.int .i64 (-1))∧Below w.heap.size w w':=by
 go_enter func113,ntmps113;go_wp2_with fail;refine Qb 2 ?_;rw[Qa];go_wp2_with fail;rw[Qa];go_wp2_with fail;refine(Jp _ _).mono ?_;rintro e w' ⟨rfl,rfl⟩;rw[hr];go_wp2_with fail;go_ret;exact⟨rfl,(Qm _ _).alloc Zbv _⟩
theorem Z7k (t:ByteArray)(w:World)(ht:t.size=2)(b0 c1:Int)(g0:(t[0].toNat:Int)=b0)(lo0:0≤b0)(hi0:b0≤255)(g1:(t[1].toNat:Int)=c1)(lo1:0≤c1)(hi1:c1≤255)(hn:192≤b0)(hr:Zx ((b0 - 192)*64+c1 - 128)=true)(hs:((enc ((b0 - 192)*64+c1 - 128)).toList==t.toList)=false):
  Calls prog 113 #[.string t] w fun e w'=>e= .returned (.int .i64 (-1))∧Below w.heap.size w w':=by
 have hb:=Jz.1 hr;obtain⟨hb0,hb1, -⟩:=hb;go_enter func113,ntmps113;go_wp2_with fail;refine Qb 2 ?_;rw[Qa];go_wp2_with fail;rw[Qa];go_wp2_with fail;refine(Jp _ _).mono ?_;rintro e w' ⟨rfl,rfl⟩;rw[hr];go_wp2_with fail;refine(Zd1 _ _ (by omega) (by omega)).mono ?_;rintro e w2 ⟨rfl,hB⟩;go_wp2_with fail;go_ret;exact⟨rfl,((Qm _ _).alloc Zbv _).trans (hB.mono (by simp))⟩
theorem Z5h (t:ByteArray)(w:World)(ht:t.size=2)(b0 c1:Int)(g0:(t[0].toNat:Int)=b0)(lo0:0≤b0)(hi0:b0≤255)(g1:(t[1].toNat:Int)=c1)(lo1:0≤c1)(hi1:c1≤255)(hn:192≤b0)(hr:Zx ((b0 - 192)*64+c1 - 128)=true)(hs:((enc ((b0 - 192)*64+c1 - 128)).toList==t.toList)=true):
  Calls prog 113 #[.string t] w fun e w'=>e= .returned (.int .i64 ((b0 - 192)*64+c1 - 128))∧Below w.heap.size w w':=by
 have hb:=Jz.1 hr;obtain⟨hb0,hb1, -⟩:=hb;go_enter func113,ntmps113;go_wp2_with fail;refine Qb 2 ?_;rw[Qa];go_wp2_with fail;rw[Qa];go_wp2_with fail;refine(Jp _ _).mono ?_;rintro e w' ⟨rfl,rfl⟩;rw[hr];go_wp2_with fail;refine(Zd1 _ _ (by omega) (by omega)).mono ?_;rintro e w2 ⟨rfl,hB⟩;go_wp2_with fail;go_ret;exact⟨rfl,((Qm _ _).alloc Zbv _).trans (hB.mono (by simp))⟩
theorem Z2d (t:ByteArray)(w:World)(ht:t.size=3)(b0 c1 c2:Int)(g0:(t[0].toNat:Int)=b0)(lo0:0≤b0)(hi0:b0≤255)(g1:(t[1].toNat:Int)=c1)(lo1:0≤c1)(hi1:c1≤255)(g2:(t[2].toNat:Int)=c2)(lo2:0≤c2)(hi2:c2≤255)(hn:b0<224):
  Calls prog 113 #[.string t] w fun e w'=>e= .returned (.int .i64 (-1))∧Below w.heap.size w w':=by
 go_enter func113,ntmps113;go_wp2_with fail;go_ret;exact⟨rfl,(Qm _ _).alloc Zbv _⟩
theorem Z7l (t:ByteArray)(w:World)(ht:t.size=3)(b0 c1 c2:Int)(g0:(t[0].toNat:Int)=b0)(lo0:0≤b0)(hi0:b0≤255)(g1:(t[1].toNat:Int)=c1)(lo1:0≤c1)(hi1:c1≤255)(g2:(t[2].toNat:Int)=c2)(lo2:0≤c2)(hi2:c2≤255)(hn:224≤b0)(hr:Zx (((b0 - 224)*64+c1 - 128)*64+c2 - 128)=false):
  Calls prog 113 #[.string t] w fun e w'=>e= .returned (.int .i64 (-1))∧Below w.heap.size w w':=by
 go_enter func113,ntmps113;go_wp2_with fail;refine Qb 3 ?_;rw[Qa];go_wp2_with fail;rw[Qa];go_wp2_with fail;rw[Qa];go_wp2_with fail;refine(Jp _ _).mono ?_;rintro e w' ⟨rfl,rfl⟩;rw[hr];go_wp2_with fail;go_ret;exact⟨rfl,(Qm _ _).alloc Zbv _⟩
theorem Z7m (t:ByteArray)(w:World)(ht:t.size=3)(b0 c1 c2:Int)(g0:(t[0].toNat:Int)=b0)(lo0:0≤b0)(hi0:b0≤255)(g1:(t[1].toNat:Int)=c1)(lo1:0≤c1)(hi1:c1≤255)(g2:(t[2].toNat:Int)=c2)(lo2:0≤c2)(hi2:c2≤255)(hn:224≤b0)(hr:Zx (((b0 - 224)*64+c1 - 128)*64+c2 - 128)=true)(hs:((enc (((b0 - 224)*64+c1 - 128)*64+c2 - 128)).toList==t.toList)=false):
  Calls prog 113 #[.string t] w fun e w'=>e= .returned (.int .i64 (-1))∧Below w.heap.size w w':=by
 have hb:=Jz.1 hr;obtain⟨hb0,hb1, -⟩:=hb;go_enter func113,ntmps113;go_wp2_with fail;refine Qb 3 ?_;rw[Qa];go_wp2_with fail;rw[Qa];go_wp2_with fail;rw[Qa];go_wp2_with fail;refine(Jp _ _).mono ?_;rintro e w' ⟨rfl,rfl⟩;rw[hr];go_wp2_with fail;refine(Zd1 _ _ (by omega) (by omega)).mono ?_;rintro e w2 ⟨rfl,hB⟩;go_wp2_with fail;go_ret;exact⟨rfl,((Qm _ _).alloc Zbv _).trans (hB.mono (by simp))⟩
theorem Z5i (t:ByteArray)(w:World)(ht:t.size=3)(b0 c1 c2:Int)(g0:(t[0].toNat:Int)=b0)(lo0:0≤b0)(hi0:b0≤255)(g1:(t[1].toNat:Int)=c1)(lo1:0≤c1)(hi1:c1≤255)(g2:(t[2].toNat:Int)=c2)(lo2:0≤c2)(hi2:c2≤255)(hn:224≤b0)(hr:Zx (((b0 - 224)*64+c1 - 128)*64+c2 - 128)=true)(hs:((enc (((b0 - 224)*64+c1 - 128)*64+c2 - 128)).toList==t.toList)=true):
  Calls prog 113 #[.string t] w fun e w'=>e= .returned (.int .i64 (((b0 - 224)*64+c1 - 128)*64+c2 - 128))∧Below w.heap.size w w':=by
 have hb:=Jz.1 hr;obtain⟨hb0,hb1, -⟩:=hb;go_enter func113,ntmps113;go_wp2_with fail;refine Qb 3 ?_;rw[Qa];go_wp2_with fail;rw[Qa];go_wp2_with fail;rw[Qa];go_wp2_with fail;refine(Jp _ _).mono ?_;rintro e w' ⟨rfl,rfl⟩;rw[hr];go_wp2_with fail;refine(Zd1 _ _ (by omega) (by omega)).mono ?_;rintro e w2 ⟨rfl,hB⟩;go_wp2_with fail;go_ret;exact⟨rfl,((Qm _ _).alloc Zbv _).trans (hB.mono (by simp))⟩
theorem Z2e (t:ByteArray)(w:World)(ht:t.size=4)(b0 c1 c2 c3:Int)(g0:(t[0].toNat:Int)=b0)(lo0:0≤b0)(hi0:b0≤255)(g1:(t[1].toNat:Int)=c1)(lo1:0≤c1)(hi1:c1≤255)(g2:(t[2].toNat:Int)=c2)(lo2:0≤c2)(hi2:c2≤255)(g3:(t[3].toNat:Int)=c3)(lo3:0≤c3)(hi3:c3≤255)(hn:b0<240):
  Calls prog 113 #[.string t] w fun e w'=>e= .returned (.int .i64 (-1))∧Below w.heap.size w w':=by
 go_enter func113,ntmps113;go_wp2_with fail;go_ret;exact⟨rfl,(Qm _ _).alloc Zbv _⟩
theorem Z7n (t:ByteArray)(w:World)(ht:t.size=4)(b0 c1 c2 c3:Int)(g0:(t[0].toNat:Int)=b0)(lo0:0≤b0)(hi0:b0≤255)(g1:(t[1].toNat:Int)=c1)(lo1:0≤c1)(hi1:c1≤255)(g2:(t[2].toNat:Int)=c2)(lo2:0≤c2)(hi2:c2≤255)(g3:(t[3].toNat:Int)=c3)(lo3:0≤c3)(hi3:c3≤255)(hn:240≤b0)(hr:Zx ((((b0 - 240)*64+c1 - 128)*64+c2 - 128)*64+c3 - 128)=false):
  Calls prog 113 #[.string t] w fun e w'=>e= .returned (.int .i64 (-1))∧Below w.heap.size w w':=by
 go_enter func113,ntmps113;go_wp2_with fail;refine Qb 4 ?_;rw[Qa];go_wp2_with fail;rw[Qa];go_wp2_with fail;rw[Qa];go_wp2_with fail;rw[Qa];go_wp2_with fail;refine(Jp _ _).mono ?_;rintro e w' ⟨rfl,rfl⟩;rw[hr];go_wp2_with fail;go_ret;exact⟨rfl,(Qm _ _).alloc Zbv _⟩
theorem Z7o (t:ByteArray)(w:World)(ht:t.size=4)(b0 c1 c2 c3:Int)(g0:(t[0].toNat:Int)=b0)(lo0:0≤b0)(hi0:b0≤255)(g1:(t[1].toNat:Int)=c1)(lo1:0≤c1)(hi1:c1≤255)(g2:(t[2].toNat:Int)=c2)(lo2:0≤c2)(hi2:c2≤255)(g3:(t[3].toNat:Int)=c3)(lo3:0≤c3)(hi3:c3≤255)(hn:240≤b0)(hr:Zx ((((b0 - 240)*64+c1 - 128)*64+c2 - 128)*64+c3 - 128)=true)(hs:((enc ((((b0 - 240)*64+c1 - 128)*64+c2 - 128)*64+c3 - 128)).toList==t.toList)=false):
  Calls prog 113 #[.string t] w fun e w'=>e= .returned (.int .i64 (-1))∧Below w.heap.size w w':=by
 have hb:=Jz.1 hr;obtain⟨hb0,hb1, -⟩:=hb;go_enter func113,ntmps113;go_wp2_with fail;refine Qb 4 ?_;rw[Qa];go_wp2_with fail;rw[Qa];go_wp2_with fail;rw[Qa];go_wp2_with fail;rw[Qa];go_wp2_with fail;refine(Jp _ _).mono ?_;rintro e w' ⟨rfl,rfl⟩;rw[hr];go_wp2_with fail;refine(Zd1 _ _ (by omega) (by omega)).mono ?_;rintro e w2 ⟨rfl,hB⟩;go_wp2_with fail;go_ret;exact⟨rfl,((Qm _ _).alloc Zbv _).trans (hB.mono (by simp))⟩
theorem Z5j (t:ByteArray)(w:World)(ht:t.size=4)(b0 c1 c2 c3:Int)(g0:(t[0].toNat:Int)=b0)(lo0:0≤b0)(hi0:b0≤255)(g1:(t[1].toNat:Int)=c1)(lo1:0≤c1)(hi1:c1≤255)(g2:(t[2].toNat:Int)=c2)(lo2:0≤c2)(hi2:c2≤255)(g3:(t[3].toNat:Int)=c3)(lo3:0≤c3)(hi3:c3≤255)(hn:240≤b0)(hr:Zx ((((b0 - 240)*64+c1 - 128)*64+c2 - 128)*64+c3 - 128)=true)(hs:((enc ((((b0 - 240)*64+c1 - 128)*64+c2 - 128)*64+c3 - 128)).toList==t.toList)=true):
  Calls prog 113 #[.string t] w fun e w'=>e= .returned (.int .i64 ((((b0 - 240)*64+c1 - 128)*64+c2 - 128)*64+c3 - 128))∧Below w.heap.size w w':=by
 have hb:=Jz.1 hr;obtain⟨hb0,hb1, -⟩:=hb;go_enter func113,ntmps113;go_wp2_with fail;refine Qb 4 ?_;rw[Qa];go_wp2_with fail;rw[Qa];go_wp2_with fail;rw[Qa];go_wp2_with fail;rw[Qa];go_wp2_with fail;refine(Jp _ _).mono ?_;rintro e w' ⟨rfl,rfl⟩;rw[hr];go_wp2_with fail;refine(Zd1 _ _ (by omega) (by omega)).mono ?_;rintro e w2 ⟨rfl,hB⟩;go_wp2_with fail;go_ret;exact⟨rfl,((Qm _ _).alloc Zbv _).trans (hB.mono (by simp))⟩
theorem Z62 (l:List Int)(h:l.length=1):l=[l.getD 0 0]:=by
 match l,h with
 | [_],_=>rfl
theorem Z63 (l:List Int)(h:l.length=2):l=[l.getD 0 0,l.getD 1 0]:=by
 match l,h with
 | [_,_],_=>rfl
theorem Z64 (l:List Int)(h:l.length=3):l=[l.getD 0 0,l.getD 1 0,l.getD 2 0]:=by
 match l,h with
 | [_,_,_],_=>rfl
theorem Z65 (l:List Int)(h:l.length=4):l=[l.getD 0 0,l.getD 1 0,l.getD 2 0,l.getD 3 0]:=by
 match l,h with
 | [_,_,_,_],_=>rfl
theorem Zxf (t:ByteArray)(w:World)(h1:1≤t.size)(h4:t.size≤4):
  Calls prog 113 #[.string t] w fun e w'=>e= .returned (.int .i64 (Zbg (Zm t)))∧Below w.heap.size w w':=by
 have hl:=Jf t;have hcase:t.size=1∨t.size=2∨t.size=3∨t.size=4:=by omega
 rcases hcase with ht|ht|ht|ht
 ·have hL:=Z62 (Zm t) (by omega);obtain⟨x0,e0⟩:∃x,byt t 0=x:=⟨_,rfl⟩;have g0:(t[0].toNat:Int)=x0:=(Zds t 0 (by omega)).trans e0;have l0:0≤x0:=e0 ▸ Zcg t _;have u0:x0≤255:=e0 ▸ Zcr t _;rw[show(Zm t).getD 0 0=x0 from e0]at hL;rw[hL,Zzl];cases hr:Zx (x0)with
  | false=>rw[Zpz hr];exact Z7h t w ht x0 g0 l0 u0 hr
  | true=>
   by_cases he:Za0 (x0)=[x0]
   ·rw[Zgx hr he];exact Z5g t w ht x0 g0 l0 u0 hr (Zh5 (by rw[Zdt hr,hL,he]))
   ·rw[Zkd he];exact Z7i t w ht x0 g0 l0 u0 hr (Zhi (by rw[Zdt hr,hL];exact he))
 ·have hL:=Z63 (Zm t) (by omega);obtain⟨x0,e0⟩:∃x,byt t 0=x:=⟨_,rfl⟩;have g0:(t[0].toNat:Int)=x0:=(Zds t 0 (by omega)).trans e0;have l0:0≤x0:=e0 ▸ Zcg t _;have u0:x0≤255:=e0 ▸ Zcr t _;obtain⟨x1,e1⟩:∃x,byt t 1=x:=⟨_,rfl⟩;have g1:(t[1].toNat:Int)=x1:=(Zds t 1 (by omega)).trans e1;have l1:0≤x1:=e1 ▸ Zcg t _;have u1:x1≤255:=e1 ▸ Zcr t _;rw[show(Zm t).getD 0 0=x0 from e0,show(Zm t).getD 1 0=x1 from e1]at hL;rw[hL,Zzm];by_cases hn:x0 - 192<0
  ·rw[if_pos hn];exact Z2c t w ht x0 x1 g0 l0 u0 g1 l1 u1 (by omega)
  rw[if_neg hn];cases hr:Zx ((x0 - 192)*64+x1 - 128)with
  | false=>rw[Zpz hr];exact Z7j t w ht x0 x1 g0 l0 u0 g1 l1 u1 (by omega) hr
  | true=>
   by_cases he:Za0 ((x0 - 192)*64+x1 - 128)=[x0,x1]
   ·rw[Zgx hr he];exact Z5h t w ht x0 x1 g0 l0 u0 g1 l1 u1 (by omega) hr (Zh5 (by rw[Zdt hr,hL,he]))
   ·rw[Zkd he];exact Z7k t w ht x0 x1 g0 l0 u0 g1 l1 u1 (by omega) hr (Zhi (by rw[Zdt hr,hL];exact he))
 ·have hL:=Z64 (Zm t) (by omega);obtain⟨x0,e0⟩:∃x,byt t 0=x:=⟨_,rfl⟩;have g0:(t[0].toNat:Int)=x0:=(Zds t 0 (by omega)).trans e0;have l0:0≤x0:=e0 ▸ Zcg t _;have u0:x0≤255:=e0 ▸ Zcr t _;obtain⟨x1,e1⟩:∃x,byt t 1=x:=⟨_,rfl⟩;have g1:(t[1].toNat:Int)=x1:=(Zds t 1 (by omega)).trans e1;have l1:0≤x1:=e1 ▸ Zcg t _;have u1:x1≤255:=e1 ▸ Zcr t _;obtain⟨x2,e2⟩:∃x,byt t 2=x:=⟨_,rfl⟩;have g2:(t[2].toNat:Int)=x2:=(Zds t 2 (by omega)).trans e2;have l2:0≤x2:=e2 ▸ Zcg t _;have u2:x2≤255:=e2 ▸ Zcr t _;rw[show(Zm t).getD 0 0=x0 from e0,show(Zm t).getD 1 0=x1 from e1,show(Zm t).getD 2 0=x2 from e2]at hL;rw[hL,Zzn];by_cases hn:x0 - 224<0
  ·rw[if_pos hn];exact Z2d t w ht x0 x1 x2 g0 l0 u0 g1 l1 u1 g2 l2 u2 (by omega)
  rw[if_neg hn];cases hr:Zx (((x0 - 224)*64+x1 - 128)*64+x2 - 128)with
  | false=>rw[Zpz hr];exact Z7l t w ht x0 x1 x2 g0 l0 u0 g1 l1 u1 g2 l2 u2 (by omega) hr
  | true=>
   by_cases he:Za0 (((x0 - 224)*64+x1 - 128)*64+x2 - 128)=[x0,x1,x2]
   ·rw[Zgx hr he];exact Z5i t w ht x0 x1 x2 g0 l0 u0 g1 l1 u1 g2 l2 u2 (by omega) hr (Zh5 (by rw[Zdt hr,hL,he]))
   ·rw[Zkd he];exact Z7m t w ht x0 x1 x2 g0 l0 u0 g1 l1 u1 g2 l2 u2 (by omega) hr (Zhi (by rw[Zdt hr,hL];exact he))
 ·have hL:=Z65 (Zm t) (by omega);obtain⟨x0,e0⟩:∃x,byt t 0=x:=⟨_,rfl⟩;have g0:(t[0].toNat:Int)=x0:=(Zds t 0 (by omega)).trans e0;have l0:0≤x0:=e0 ▸ Zcg t _;have u0:x0≤255:=e0 ▸ Zcr t _;obtain⟨x1,e1⟩:∃x,byt t 1=x:=⟨_,rfl⟩;have g1:(t[1].toNat:Int)=x1:=(Zds t 1 (by omega)).trans e1;have l1:0≤x1:=e1 ▸ Zcg t _;have u1:x1≤255:=e1 ▸ Zcr t _;obtain⟨x2,e2⟩:∃x,byt t 2=x:=⟨_,rfl⟩;have g2:(t[2].toNat:Int)=x2:=(Zds t 2 (by omega)).trans e2;have l2:0≤x2:=e2 ▸ Zcg t _;have u2:x2≤255:=e2 ▸ Zcr t _;obtain⟨x3,e3⟩:∃x,byt t 3=x:=⟨_,rfl⟩;have g3:(t[3].toNat:Int)=x3:=(Zds t 3 (by omega)).trans e3;have l3:0≤x3:=e3 ▸ Zcg t _;have u3:x3≤255:=e3 ▸ Zcr t _;rw[show(Zm t).getD 0 0=x0 from e0,show(Zm t).getD 1 0=x1 from e1,show(Zm t).getD 2 0=x2 from e2,show(Zm t).getD 3 0=x3 from e3]at hL;rw[hL,Zzo];by_cases hn:x0 - 240<0
  ·rw[if_pos hn];exact Z2e t w ht x0 x1 x2 x3 g0 l0 u0 g1 l1 u1 g2 l2 u2 g3 l3 u3 (by omega)
  rw[if_neg hn];cases hr:Zx ((((x0 - 240)*64+x1 - 128)*64+x2 - 128)*64+x3 - 128)with
  | false=>rw[Zpz hr];exact Z7n t w ht x0 x1 x2 x3 g0 l0 u0 g1 l1 u1 g2 l2 u2 g3 l3 u3 (by omega) hr
  | true=>
   by_cases he:Za0 ((((x0 - 240)*64+x1 - 128)*64+x2 - 128)*64+x3 - 128)=[x0,x1,x2,x3]
   ·rw[Zgx hr he];exact Z5j t w ht x0 x1 x2 x3 g0 l0 u0 g1 l1 u1 g2 l2 u2 g3 l3 u3 (by omega) hr (Zh5 (by rw[Zdt hr,hL,he]))
   ·rw[Zkd he];exact Z7o t w ht x0 x1 x2 x3 g0 l0 u0 g1 l1 u1 g2 l2 u2 g3 l3 u3 (by omega) hr (Zhi (by rw[Zdt hr,hL];exact he))
theorem Zab (s:ByteArray)(k b j:Nat)(w:World)(hj:b=k+j)(hk:b≤s.size)(h1:1≤j)(h4:j≤4):
  Calls prog 113 #[.string (s.extract k b)] w fun e w'=>e= .returned (.int .i64 (Zbg (((Zm s).drop k).take j)))∧Below w.heap.size w w':=by
 have hs:(s.extract k b).size=j:=by simp;omega
 have:=Zxf (s.extract k b) w (by omega) (by omega);rw[Zqp,show b - k=j by omega]at this;exact this
theorem Zz2 (s:ByteArray)(k:Nat)(w:World)(hs:s.size≤9223372036854775807)(hk:k+1≤s.size)(n:Int)(v1:Zbg (((Zm s).drop k).take 1)=n)(hn:0≤n):
  Calls prog 91 #[.string s,.int .i64 k] w fun e w'=>e= .returned (.tuple #[.int .i64 n,.int .i64 1,.bool true])∧Below w.heap.size w w':=by
 go_enter func91,ntmps91;go_wp2_with fail;refine Qb 1 ?_;rw[Qa];go_wp2_with fail;refine(Zab s k (k+1) 1 _ rfl (by omega) (by omega) (by omega)).mono ?_;rintro e w1 ⟨rfl,hb1⟩;rw[v1];go_wp2_with fail;go_ret3
 exact⟨rfl,hb1⟩
theorem Zsb (s:ByteArray)(k:Nat)(w:World)(hs:s.size≤9223372036854775807)(hk:k+1=s.size)(v1:Zbg (((Zm s).drop k).take 1)= -1):
  Calls prog 91 #[.string s,.int .i64 k] w fun e w'=>e= .returned (.tuple #[.int .i64 0,.int .i64 0,.bool false])∧Below w.heap.size w w':=by
 have hk1:=Qq hk;have hk2:=Qq hk.symm;clear hk;go_enter func91,ntmps91;go_wp2_with fail;refine Qb 2 ?_;rw[Qa];go_wp2_with fail;refine(Zab s k (k+1) 1 _ rfl (by omega) (by omega) (by omega)).mono ?_;rintro e w1 ⟨rfl,hb1⟩;rw[v1];go_wp2_with fail;rw[Qa];go_wp2_with fail;go_ret3
 exact⟨rfl,hb1⟩
theorem Zz3 (s:ByteArray)(k:Nat)(w:World)(hs:s.size≤9223372036854775807)(hk:k+2≤s.size)(v1:Zbg (((Zm s).drop k).take 1)= -1)(n:Int)(v2:Zbg (((Zm s).drop k).take 2)=n)(hn:0≤n):
  Calls prog 91 #[.string s,.int .i64 k] w fun e w'=>e= .returned (.tuple #[.int .i64 n,.int .i64 2,.bool true])∧Below w.heap.size w w':=by
 go_enter func91,ntmps91;go_wp2_with fail;refine Qb 2 ?_;rw[Qa];go_wp2_with fail;refine(Zab s k (k+1) 1 _ rfl (by omega) (by omega) (by omega)).mono ?_;rintro e w1 ⟨rfl,hb1⟩;rw[v1];go_wp2_with fail;rw[Qa];go_wp2_with fail;refine(Zab s k (k+2) 2 _ rfl (by omega) (by omega) (by omega)).mono ?_;rintro e w2 ⟨rfl,hb2⟩;rw[v2];go_wp2_with fail;go_ret3
 exact⟨rfl,(hb1).trans (hb2.mono (by have:=(hb1).size;omega))⟩
theorem Zsc (s:ByteArray)(k:Nat)(w:World)(hs:s.size≤9223372036854775807)(hk:k+2=s.size)(v1:Zbg (((Zm s).drop k).take 1)= -1)(v2:Zbg (((Zm s).drop k).take 2)= -1):
  Calls prog 91 #[.string s,.int .i64 k] w fun e w'=>e= .returned (.tuple #[.int .i64 0,.int .i64 0,.bool false])∧Below w.heap.size w w':=by
 have hk1:=Qq hk;have hk2:=Qq hk.symm;clear hk;go_enter func91,ntmps91;go_wp2_with fail;refine Qb 3 ?_;rw[Qa];go_wp2_with fail;refine(Zab s k (k+1) 1 _ rfl (by omega) (by omega) (by omega)).mono ?_;rintro e w1 ⟨rfl,hb1⟩;rw[v1];go_wp2_with fail;rw[Qa];go_wp2_with fail;refine(Zab s k (k+2) 2 _ rfl (by omega) (by omega) (by omega)).mono ?_;rintro e w2 ⟨rfl,hb2⟩;rw[v2];go_wp2_with fail;rw[Qa];go_wp2_with fail;go_ret3
 exact⟨rfl,(hb1).trans (hb2.mono (by have:=(hb1).size;omega))⟩
theorem Zz4 (s:ByteArray)(k:Nat)(w:World)(hs:s.size≤9223372036854775807)(hk:k+3≤s.size)(v1:Zbg (((Zm s).drop k).take 1)= -1)(v2:Zbg (((Zm s).drop k).take 2)= -1)(n:Int)(v3:Zbg (((Zm s).drop k).take 3)=n)(hn:0≤n):
  Calls prog 91 #[.string s,.int .i64 k] w fun e w'=>e= .returned (.tuple #[.int .i64 n,.int .i64 3,.bool true])∧Below w.heap.size w w':=by
 go_enter func91,ntmps91;go_wp2_with fail;refine Qb 3 ?_;rw[Qa];go_wp2_with fail;refine(Zab s k (k+1) 1 _ rfl (by omega) (by omega) (by omega)).mono ?_;rintro e w1 ⟨rfl,hb1⟩;rw[v1];go_wp2_with fail;rw[Qa];go_wp2_with fail;refine(Zab s k (k+2) 2 _ rfl (by omega) (by omega) (by omega)).mono ?_;rintro e w2 ⟨rfl,hb2⟩;rw[v2];go_wp2_with fail;rw[Qa];go_wp2_with fail;refine(Zab s k (k+3) 3 _ rfl (by omega) (by omega) (by omega)).mono ?_;rintro e w3 ⟨rfl,hb3⟩;rw[v3];go_wp2_with fail;go_ret3
 exact⟨rfl,((hb1).trans (hb2.mono (by have:=(hb1).size;omega))).trans (hb3.mono (by have:=((hb1).trans (hb2.mono (by have:=(hb1).size;omega))).size;omega))⟩
theorem Zsd (s:ByteArray)(k:Nat)(w:World)(hs:s.size≤9223372036854775807)(hk:k+3=s.size)(v1:Zbg (((Zm s).drop k).take 1)= -1)(v2:Zbg (((Zm s).drop k).take 2)= -1)(v3:Zbg (((Zm s).drop k).take 3)= -1):
  Calls prog 91 #[.string s,.int .i64 k] w fun e w'=>e= .returned (.tuple #[.int .i64 0,.int .i64 0,.bool false])∧Below w.heap.size w w':=by
 have hk1:=Qq hk;have hk2:=Qq hk.symm;clear hk;go_enter func91,ntmps91;go_wp2_with fail;refine Qb 4 ?_;rw[Qa];go_wp2_with fail;refine(Zab s k (k+1) 1 _ rfl (by omega) (by omega) (by omega)).mono ?_;rintro e w1 ⟨rfl,hb1⟩;rw[v1];go_wp2_with fail;rw[Qa];go_wp2_with fail;refine(Zab s k (k+2) 2 _ rfl (by omega) (by omega) (by omega)).mono ?_;rintro e w2 ⟨rfl,hb2⟩;rw[v2];go_wp2_with fail;rw[Qa];go_wp2_with fail;refine(Zab s k (k+3) 3 _ rfl (by omega) (by omega) (by omega)).mono ?_;rintro e w3 ⟨rfl,hb3⟩;rw[v3];go_wp2_with fail;rw[Qa];go_wp2_with fail;go_ret3
 exact⟨rfl,((hb1).trans (hb2.mono (by have:=(hb1).size;omega))).trans (hb3.mono (by have:=((hb1).trans (hb2.mono (by have:=(hb1).size;omega))).size;omega))⟩
theorem Zz5 (s:ByteArray)(k:Nat)(w:World)(hs:s.size≤9223372036854775807)(hk:k+4≤s.size)(v1:Zbg (((Zm s).drop k).take 1)= -1)(v2:Zbg (((Zm s).drop k).take 2)= -1)(v3:Zbg (((Zm s).drop k).take 3)= -1)(n:Int)(v4:Zbg (((Zm s).drop k).take 4)=n)(hn:0≤n):
  Calls prog 91 #[.string s,.int .i64 k] w fun e w'=>e= .returned (.tuple #[.int .i64 n,.int .i64 4,.bool true])∧Below w.heap.size w w':=by
 go_enter func91,ntmps91;go_wp2_with fail;refine Qb 4 ?_;rw[Qa];go_wp2_with fail;refine(Zab s k (k+1) 1 _ rfl (by omega) (by omega) (by omega)).mono ?_;rintro e w1 ⟨rfl,hb1⟩;rw[v1];go_wp2_with fail;rw[Qa];go_wp2_with fail;refine(Zab s k (k+2) 2 _ rfl (by omega) (by omega) (by omega)).mono ?_;rintro e w2 ⟨rfl,hb2⟩;rw[v2];go_wp2_with fail;rw[Qa];go_wp2_with fail;refine(Zab s k (k+3) 3 _ rfl (by omega) (by omega) (by omega)).mono ?_;rintro e w3 ⟨rfl,hb3⟩;rw[v3];go_wp2_with fail;rw[Qa];go_wp2_with fail;refine(Zab s k (k+4) 4 _ rfl (by omega) (by omega) (by omega)).mono ?_;rintro e w4 ⟨rfl,hb4⟩;rw[v4];go_wp2_with fail;go_ret3
 exact⟨rfl,(((hb1).trans (hb2.mono (by have:=(hb1).size;omega))).trans (hb3.mono (by have:=((hb1).trans (hb2.mono (by have:=(hb1).size;omega))).size;omega))).trans (hb4.mono (by have:=(((hb1).trans (hb2.mono (by have:=(hb1).size;omega))).trans (hb3.mono (by have:=((hb1).trans (hb2.mono (by have:=(hb1).size;omega))).size;omega))).size;omega))⟩
theorem Zse (s:ByteArray)(k:Nat)(w:World)(hs:s.size≤9223372036854775807)(hk:k+4≤s.size)(v1:Zbg (((Zm s).drop k).take 1)= -1)(v2:Zbg (((Zm s).drop k).take 2)= -1)(v3:Zbg (((Zm s).drop k).take 3)= -1)(v4:Zbg (((Zm s).drop k).take 4)= -1):
  Calls prog 91 #[.string s,.int .i64 k] w fun e w'=>e= .returned (.tuple #[.int .i64 0,.int .i64 0,.bool false])∧Below w.heap.size w w':=by
 go_enter func91,ntmps91;go_wp2_with fail;refine Qb 5 ?_;rw[Qa];go_wp2_with fail;refine(Zab s k (k+1) 1 _ rfl (by omega) (by omega) (by omega)).mono ?_;rintro e w1 ⟨rfl,hb1⟩;rw[v1];go_wp2_with fail;rw[Qa];go_wp2_with fail;refine(Zab s k (k+2) 2 _ rfl (by omega) (by omega) (by omega)).mono ?_;rintro e w2 ⟨rfl,hb2⟩;rw[v2];go_wp2_with fail;rw[Qa];go_wp2_with fail;refine(Zab s k (k+3) 3 _ rfl (by omega) (by omega) (by omega)).mono ?_;rintro e w3 ⟨rfl,hb3⟩;rw[v3];go_wp2_with fail;rw[Qa];go_wp2_with fail;refine(Zab s k (k+4) 4 _ rfl (by omega) (by omega) (by omega)).mono ?_;rintro e w4 ⟨rfl,hb4⟩;rw[v4];go_wp2_with fail;rw[Qa];go_wp2_with fail;go_ret3
 exact⟨rfl,(((hb1).trans (hb2.mono (by have:=(hb1).size;omega))).trans (hb3.mono (by have:=((hb1).trans (hb2.mono (by have:=(hb1).size;omega))).size;omega))).trans (hb4.mono (by have:=(((hb1).trans (hb2.mono (by have:=(hb1).size;omega))).trans (hb3.mono (by have:=((hb1).trans (hb2.mono (by have:=(hb1).size;omega))).size;omega))).size;omega))⟩
def Zpd:Option Int→Value
 | none=> .tuple #[.int .i64 0,.int .i64 0,.bool false]
 | some n=> .tuple #[.int .i64 n,.int .i64 (wid n),.bool true]
theorem Zi1 (n:Int):Zpd (some n)= .tuple #[.int .i64 n,.int .i64 (wid n),.bool true]:=rfl
theorem Zuh (s:ByteArray)(k:Nat):∀b,((Zm s).drop k).head? =some b→0≤b:=by
 intro b hb;by_cases hk:k<s.size
 ·rw[Zfi s k hk]at hb;have:=Option.some.inj hb;rw[←this];exact Zcg s k
 ·rw[Z1c s k (by omega)]at hb;cases hb
theorem Zjk (n:Int):1≤wid n∧wid n≤4:=by unfold wid;(repeat' split)<;>omega
theorem Zz9 {s:ByteArray}{k:Nat}{n:Int}(h:Zee ((Zm s).drop k) n):k+wid n≤s.size:=by
 obtain⟨_,t,ht⟩:=h;have:=congrArg List.length ht;rw[Qh,List.length_append,Ze6,Jf]at this;have:=(Zjk n).1;omega
theorem Zkt (s:ByteArray)(k:Nat)(w:World)(hs:s.size≤9223372036854775807)(hk:k<s.size):
  Calls prog 91 #[.string s,.int .i64 k] w fun e w'=>e= .returned (Zpd (dec ((Zm s).drop k)))∧Below w.heap.size w w':=by
 cases hd:dec ((Zm s).drop k)with
 | none=>
  have v:=fun m=>Zzp hd m;by_cases c1:k+1=s.size
  ·exact Zsb s k w hs c1 (v 1)
  by_cases c2:k+2=s.size
  ·exact Zsc s k w hs c2 (v 1) (v 2)
  by_cases c3:k+3=s.size
  ·exact Zsd s k w hs c3 (v 1) (v 2) (v 3)
  ·exact Zse s k w hs (by omega) (v 1) (v 2) (v 3) (v 4)
 | some n=>
  have hS:=Zon (Zuh s k) hd;have hf:=Zz9 hS;have v:=fun m hm=>Zxe hS m hm;have v':=Z5k hS;have hn:=(Jz.1 hS.1).1;rw[Zi1];have hw:=Zjk n;have hcase:wid n=1∨wid n=2∨wid n=3∨wid n=4:=by omega
  rcases hcase with c|c|c|c
  ·rw[c]at hf v v'⊢;exact Zz2 s k w hs hf n v' hn
  ·rw[c]at hf v v'⊢;exact Zz3 s k w hs hf (v 1 (by omega)) n v' hn
  ·rw[c]at hf v v'⊢;exact Zz4 s k w hs hf (v 1 (by omega)) (v 2 (by omega)) n v' hn
  ·rw[c]at hf v v'⊢;exact Zz5 s k w hs hf (v 1 (by omega)) (v 2 (by omega)) (v 3 (by omega)) n v' hn
theorem Zqr {w w':World}(hb:Below w.heap.size w w'):w.grownBy w' none:=⟨hb.os,hb.tape,hb.output,hb.size,fun k hk _=>hb.block k hk⟩
theorem Zkg {w w':World}{base:Nat}{e:TypeId}{size:Nat}{v:Value}{n:Nat}{xs:List Value}(h:w.ownsRow base e size v n xs)(hb:Below w.heap.size w w'):w'.ownsRow base e size v n xs:=
 h.kept (Zqr hb) (by cases hv:v.ownBlock<;>simp)
theorem Zc8 {p:Prop}(h:p):Hid p:=h
theorem Zsk:(prog.info? 3).map (fun i=>(i.zero,i.size,i.bytes))=some (some (.int .i64 0),1,8):=by kernel_rfl
theorem Zps (s:ByteArray)(ns:List Int)(w:World)(hs:s.size≤65535)(hp:Zc0 (Zm s) ns []):
    Calls prog 121 #[.string s] w fun e w'=>∃v,e= .returned (.tuple #[v,.int .i64 s.size,.int .i64 0])∧w'.ownsRow w.heap.size 3 1 v ns.length (ns.map (Qv .i64))∧Below w.heap.size w w':=by
  obtain⟨i0,hi,hz0,hz1,hz2⟩:=Qd Zsk;have hlen:s.size=(Zw ns).length:=by have:=Zb7 hp;rw[Jf]at this;simpa using this
  have hll:ns.length≤s.size:=by rw[hlen];exact Za8 ns
  have hle:(Zw ns).length≤s.size:=by omega
  have HL:=Zc8 hlen;clear hlen;have hd:decide ((65535:Int)<(s.size:Int))=false:=decide_eq_false (by omega);go_enter func121,ntmps121;go_wp2_with fail;go_loopw [5,6] (fun v a wr=>∃j:Nat,j≤ns.length∧a= .int .i64 (Zco ns j)∧wr.ownsRow w.heap.size 3 1 v j ((ns.take j).map (Qv .i64))∧Below w.heap.size w wr)
    (fun _ a _=>s.size - (intOf a).toNat)
  case atStart=>exact⟨0,Qn _,by rw[Zp8];rfl,Qu _ _ _ _,Qm _ _⟩
  case round=>
    obtain⟨j,hj,rfl,hown,hB⟩:=hrel;have hsz:=hB.size;by_cases hlt:j<ns.length
    · have h1:=Zn3 hlt;have h2:=Zc8 (Zii ns j hlt);have h3:=Zc8 (Zpx hp hlt);have h4:=Zc8 (Zjg hlt);have hw:=Zjk (ns.getD j 0);obtain⟨n,hn⟩:∃n,ns.getD j 0=n:=⟨_,rfl⟩;rw[hn]at h1 h2 h3 h4 hw;have HN:=Zc8 hn;clear hn;have hk:Zco ns j<s.size:=by omega
      obtain⟨q,hq⟩:∃q,Zco ns j=q:=⟨_,rfl⟩;rw[hq]at h1 h2 h3 hk⊢;clear hq;go_wp2_with fail;refine(Zo5 s q _ (by omega) hk).mono ?_;rintro e w1 ⟨rfl,hb1⟩;rw[h3.out,Zf3];have hb2:=hB.trans (hb1.mono hsz);have hsz1:=hb2.size;have hown1:=Zkg hown hb1;clear hown;go_wp2_with (at_builtin;refine Qc _ rfl _ _ 34 rfl w.heap.size 3 i0 (.int .i64 0) 1 8 Tryz.underlying34 hi hz0 hz1 hz2 rfl (by decide) _ _ _ rfl (hown1.alloc _) ⟨w1.heap.size,0,none⟩ 1 1 [.int .i64 n] rfl rfl ?c1 ?c2 ?c3 ?c4 ?c5 ?_)
      case c1=>exact Zbx _ _ _ _ (by simp)
      case c2=>exact Zd9 _
      case c3=>unfold maxLen;omega
      case c4=>omega
      case c5=>simp;omega
      intro v2 w2 hown2 hg2 _;have hB2:=Zal (hb2.alloc hsz1 _) (hown1.alloc _) hg2 (by simp;omega);clear hg2 hown1;go_wp2_with fail;go_roundw
      case rel=>
        refine⟨j+1,by omega, ?_, ?_,hB2⟩
        · rw[h2.out];go_num
        · rw[h4.out,Qi,Qj];exact hown2
      case measure=>simp[intOf];omega
    · have hjn:j=ns.length:=by omega
      subst hjn;have hend:Zco ns ns.length=s.size:=by rw[Zl5];exact HL.out.symm
      rw[hend];rw[Qk]at hown;clear hend;go_wp2_with fail;go_ret3
      exact⟨_,rfl,hown,hB⟩
theorem Z3t (s:ByteArray)(ns r:List Int)(w:World)(hs:s.size≤65535)(hp:Zc0 (Zm s) ns r)(hr:r≠[]):
    Calls prog 121 #[.string s] w fun e w'=>e= .returned (.tuple #[.slice none 0 0,.int .i64 (Zw ns).length,.int .i64 1])∧Below w.heap.size w w':=by
  obtain⟨i0,hi,hz0,hz1,hz2⟩:=Qd Zsk;have hlen:s.size=(Zw ns).length+r.length:=by have:=Zb7 hp;rwa [Jf]at this
  have hrl:0<r.length:=List.length_pos_iff.2 hr;have hll:ns.length≤s.size:=by rw[hlen];have:=Za8 ns;omega
  have hle:(Zw ns).length<s.size:=by omega
  have HL:=Zc8 hlen;clear hlen;have hd:decide ((65535:Int)<(s.size:Int))=false:=decide_eq_false (by omega);go_enter func121,ntmps121;go_wp2_with fail;go_loopw [5,6] (fun v a wr=>∃j:Nat,j≤ns.length∧a= .int .i64 (Zco ns j)∧wr.ownsRow w.heap.size 3 1 v j ((ns.take j).map (Qv .i64))∧Below w.heap.size w wr)
    (fun _ a _=>s.size - (intOf a).toNat)
  case atStart=>exact⟨0,Qn _,by rw[Zp8];rfl,Qu _ _ _ _,Qm _ _⟩
  case round=>
    obtain⟨j,hj,rfl,hown,hB⟩:=hrel;have hsz:=hB.size;by_cases hlt:j<ns.length
    · have h1:=Zn3 hlt;have h2:=Zc8 (Zii ns j hlt);have h3:=Zc8 (Zpx hp hlt);have h4:=Zc8 (Zjg hlt);have hw:=Zjk (ns.getD j 0);obtain⟨n,hn⟩:∃n,ns.getD j 0=n:=⟨_,rfl⟩;rw[hn]at h1 h2 h3 h4 hw;have HN:=Zc8 hn;clear hn;have hk:Zco ns j<s.size:=by omega
      obtain⟨q,hq⟩:∃q,Zco ns j=q:=⟨_,rfl⟩;rw[hq]at h1 h2 h3 hk⊢;clear hq;go_wp2_with fail;refine(Zo5 s q _ (by omega) hk).mono ?_;rintro e w1 ⟨rfl,hb1⟩;rw[h3.out,Zf3];have hb2:=hB.trans (hb1.mono hsz);have hsz1:=hb2.size;have hown1:=Zkg hown hb1;clear hown;go_wp2_with (at_builtin;refine Qc _ rfl _ _ 34 rfl w.heap.size 3 i0 (.int .i64 0) 1 8 Tryz.underlying34 hi hz0 hz1 hz2 rfl (by decide) _ _ _ rfl (hown1.alloc _) ⟨w1.heap.size,0,none⟩ 1 1 [.int .i64 n] rfl rfl ?c1 ?c2 ?c3 ?c4 ?c5 ?_)
      case c1=>exact Zbx _ _ _ _ (by simp)
      case c2=>exact Zd9 _
      case c3=>unfold maxLen;omega
      case c4=>omega
      case c5=>simp;omega
      intro v2 w2 hown2 hg2 _;have hB2:=Zal (hb2.alloc hsz1 _) (hown1.alloc _) hg2 (by simp;omega);clear hg2 hown1;go_wp2_with fail;go_roundw
      case rel=>
        refine⟨j+1,by omega, ?_, ?_,hB2⟩
        · rw[h2.out];go_num
        · rw[h4.out,Qi,Qj];exact hown2
      case measure=>simp[intOf];omega
    · have hjn:j=ns.length:=by omega
      subst hjn;have h3:=Zc8 (Zvk hp);rw[Zl5]at h3⊢;obtain⟨q,hq⟩:∃q,(Zw ns).length=q:=⟨_,rfl⟩;rw[hq]at h3 hle⊢;have HQ:=Zc8 hq;clear hq;go_wp2_with fail;refine(Zo5 s q _ (by omega) (by omega)).mono ?_;rintro e w1 ⟨rfl,hb1⟩;rw[h3.out];unfold Zxc;have hb2:=hB.trans (hb1.mono hsz);go_wp2_with fail;go_ret3
      exact⟨by rw[HQ.out];rfl,hb2⟩
theorem Zg1 (s:ByteArray)(ns:List Int)(w:World)(hs:s.size≤65535)(hp:Zc0 (Zm s) ns []):
    Calls prog 58 #[.string s] w fun e w'=>∃v,e= .returned (.tuple #[v,.int .i64 s.size,.int .i64 0])∧w'.ownsRow w.heap.size 3 1 v ns.length (ns.map (Qv .i64))∧Below w.heap.size w w':=by
  obtain⟨i0,hi,hz0,hz1,hz2⟩:=Qd Zsk;have hlen:s.size=(Zw ns).length:=by have:=Zb7 hp;rw[Jf]at this;simpa using this
  have hll:ns.length≤s.size:=by rw[hlen];exact Za8 ns
  have hle:(Zw ns).length≤s.size:=by omega
  have HL:=Zc8 hlen;clear hlen;have hd:decide ((65535:Int)<(s.size:Int))=false:=decide_eq_false (by omega);have hown0:(w.alloc (.cells #[] 3)).ownsRow w.heap.size 3 1 (.slice (some ⟨w.heap.size,0,none⟩) 0 0) 0 []:=Qs w #[] 0 Zbv (Qn _) rfl;have hb0:Below w.heap.size w (w.alloc (.cells #[] 3)):=(Qm _ _).alloc Zbv _;go_enter func58,ntmps58;go_wp2_with fail;go_loopw [5,6] (fun v a wr=>∃j:Nat,j≤ns.length∧a= .int .i64 (Zco ns j)∧wr.ownsRow w.heap.size 3 1 v j ((ns.take j).map (Qv .i64))∧Below w.heap.size w wr)
    (fun _ a _=>s.size - (intOf a).toNat)
  case atStart=>exact⟨0,Qn _,by rw[Zp8];rfl,hown0,hb0⟩
  case round=>
    obtain⟨j,hj,rfl,hown,hB⟩:=hrel;have hsz:=hB.size;by_cases hlt:j<ns.length
    · have h1:=Zn3 hlt;have h2:=Zc8 (Zii ns j hlt);have h3:=Zc8 (Zpx hp hlt);have h4:=Zc8 (Zjg hlt);have hw:=Zjk (ns.getD j 0);obtain⟨n,hn⟩:∃n,ns.getD j 0=n:=⟨_,rfl⟩;rw[hn]at h1 h2 h3 h4 hw;have HN:=Zc8 hn;clear hn;have hk:Zco ns j<s.size:=by omega
      obtain⟨q,hq⟩:∃q,Zco ns j=q:=⟨_,rfl⟩;rw[hq]at h1 h2 h3 hk⊢;clear hq;go_wp2_with fail;refine(Zkt s q _ (by omega) hk).mono ?_;rintro e w1 ⟨rfl,hb1⟩;rw[h3.out,Zi1];have hb2:=hB.trans (hb1.mono hsz);have hsz1:=hb2.size;have hown1:=Zkg hown hb1;clear hown;go_wp2_with (at_builtin;refine Qc _ rfl _ _ 34 rfl w.heap.size 3 i0 (.int .i64 0) 1 8 Tryz.underlying34 hi hz0 hz1 hz2 rfl (by decide) _ _ _ rfl (hown1.alloc _) ⟨w1.heap.size,0,none⟩ 1 1 [.int .i64 n] rfl rfl ?c1 ?c2 ?c3 ?c4 ?c5 ?_)
      case c1=>exact Zbx _ _ _ _ (by simp)
      case c2=>exact Zd9 _
      case c3=>unfold maxLen;omega
      case c4=>omega
      case c5=>simp;omega
      intro v2 w2 hown2 hg2 _;have hB2:=Zal (hb2.alloc hsz1 _) (hown1.alloc _) hg2 (by simp;omega);clear hg2 hown1;go_wp2_with fail;go_roundw
      case rel=>
        refine⟨j+1,by omega, ?_, ?_,hB2⟩
        · rw[h2.out];go_num
        · rw[h4.out,Qi,Qj];exact hown2
      case measure=>simp[intOf];omega
    · have hjn:j=ns.length:=by omega
      subst hjn;have hend:Zco ns ns.length=s.size:=by rw[Zl5];exact HL.out.symm
      rw[hend];rw[Qk]at hown;clear hend;go_wp2_with fail;go_ret3
      exact⟨_,rfl,hown,hB⟩
theorem Zxl (s:ByteArray)(ns r:List Int)(w:World)(hs:s.size≤65535)(hp:Zc0 (Zm s) ns r)(hr:r≠[]):
    Calls prog 58 #[.string s] w fun e w'=>e= .returned (.tuple #[.slice none 0 0,.int .i64 (Zw ns).length,.int .i64 1])∧Below w.heap.size w w':=by
  obtain⟨i0,hi,hz0,hz1,hz2⟩:=Qd Zsk;have hlen:s.size=(Zw ns).length+r.length:=by have:=Zb7 hp;rwa [Jf]at this
  have hrl:0<r.length:=List.length_pos_iff.2 hr;have hll:ns.length≤s.size:=by rw[hlen];have:=Za8 ns;omega
  have hle:(Zw ns).length<s.size:=by omega
  have HL:=Zc8 hlen;clear hlen;have hd:decide ((65535:Int)<(s.size:Int))=false:=decide_eq_false (by omega);have hown0:(w.alloc (.cells #[] 3)).ownsRow w.heap.size 3 1 (.slice (some ⟨w.heap.size,0,none⟩) 0 0) 0 []:=Qs w #[] 0 Zbv (Qn _) rfl;have hb0:Below w.heap.size w (w.alloc (.cells #[] 3)):=(Qm _ _).alloc Zbv _;go_enter func58,ntmps58;go_wp2_with fail;go_loopw [5,6] (fun v a wr=>∃j:Nat,j≤ns.length∧a= .int .i64 (Zco ns j)∧wr.ownsRow w.heap.size 3 1 v j ((ns.take j).map (Qv .i64))∧Below w.heap.size w wr)
    (fun _ a _=>s.size - (intOf a).toNat)
  case atStart=>exact⟨0,Qn _,by rw[Zp8];rfl,hown0,hb0⟩
  case round=>
    obtain⟨j,hj,rfl,hown,hB⟩:=hrel;have hsz:=hB.size;by_cases hlt:j<ns.length
    · have h1:=Zn3 hlt;have h2:=Zc8 (Zii ns j hlt);have h3:=Zc8 (Zpx hp hlt);have h4:=Zc8 (Zjg hlt);have hw:=Zjk (ns.getD j 0);obtain⟨n,hn⟩:∃n,ns.getD j 0=n:=⟨_,rfl⟩;rw[hn]at h1 h2 h3 h4 hw;have HN:=Zc8 hn;clear hn;have hk:Zco ns j<s.size:=by omega
      obtain⟨q,hq⟩:∃q,Zco ns j=q:=⟨_,rfl⟩;rw[hq]at h1 h2 h3 hk⊢;clear hq;go_wp2_with fail;refine(Zkt s q _ (by omega) hk).mono ?_;rintro e w1 ⟨rfl,hb1⟩;rw[h3.out,Zi1];have hb2:=hB.trans (hb1.mono hsz);have hsz1:=hb2.size;have hown1:=Zkg hown hb1;clear hown;go_wp2_with (at_builtin;refine Qc _ rfl _ _ 34 rfl w.heap.size 3 i0 (.int .i64 0) 1 8 Tryz.underlying34 hi hz0 hz1 hz2 rfl (by decide) _ _ _ rfl (hown1.alloc _) ⟨w1.heap.size,0,none⟩ 1 1 [.int .i64 n] rfl rfl ?c1 ?c2 ?c3 ?c4 ?c5 ?_)
      case c1=>exact Zbx _ _ _ _ (by simp)
      case c2=>exact Zd9 _
      case c3=>unfold maxLen;omega
      case c4=>omega
      case c5=>simp;omega
      intro v2 w2 hown2 hg2 _;have hB2:=Zal (hb2.alloc hsz1 _) (hown1.alloc _) hg2 (by simp;omega);clear hg2 hown1;go_wp2_with fail;go_roundw
      case rel=>
        refine⟨j+1,by omega, ?_, ?_,hB2⟩
        · rw[h2.out];go_num
        · rw[h4.out,Qi,Qj];exact hown2
      case measure=>simp[intOf];omega
    · have hjn:j=ns.length:=by omega
      subst hjn;have h3:=Zc8 (Zvk hp);rw[Zl5]at h3⊢;obtain⟨q,hq⟩:∃q,(Zw ns).length=q:=⟨_,rfl⟩;rw[hq]at h3 hle⊢;have HQ:=Zc8 hq;clear hq;go_wp2_with fail;refine(Zkt s q _ (by omega) (by omega)).mono ?_;rintro e w1 ⟨rfl,hb1⟩;rw[h3.out];unfold Zpd;have hb2:=hB.trans (hb1.mono hsz);go_wp2_with fail;go_ret3
      exact⟨by rw[HQ.out];rfl,hb2⟩
theorem Zuo (s:ByteArray)(w:World)(hs:65535<s.size):
  Calls prog 58 #[.string s] w fun e w'=>e= .returned (.tuple #[.slice none 0 0,.int .i64 0,.int .i64 2])∧Below w.heap.size w w':=by
 go_enter func58,ntmps58;go_wp2_with fail;go_ret3
 exact⟨rfl,Qm _ _⟩
theorem Zij {w:World}{base:Nat}{e:TypeId}{v:Value}{n:Nat}{xs:List Value}(h:w.ownsRow base e 1 v n xs):∃a cap,v= .slice a n cap:=by
 rcases h.2 with ⟨rfl,rfl⟩|⟨g,cap,cur,rfl,_⟩
 ·exact⟨_,_,rfl⟩
 ·exact⟨_,_,rfl⟩
theorem Zzu {w:World}{base:Nat}{v:Value}{n:Nat}{xs:List Int}(h:w.ownsRow base 3 1 v n (xs.map (Qv .i64)))(hx:xs.length=n)(hn:0<n):
  ∃g cap,v= .slice (some ⟨g,0,none⟩) n cap∧g<w.heap.size∧∀i,i<n→w.cell? ⟨g,0+i,none⟩=some (.int .i64 (xs.getD i 0)):=by
 obtain⟨g,cap,rfl,_,hlt,hc⟩:=Zgt h hn;refine⟨g,cap,rfl,hlt,fun i hi=> ?_⟩;have:=hc i (.int .i64 (xs.getD i 0)) (by simp[Ql,show i<xs.length by omega])
 rwa [Addr.add_lit]at this
