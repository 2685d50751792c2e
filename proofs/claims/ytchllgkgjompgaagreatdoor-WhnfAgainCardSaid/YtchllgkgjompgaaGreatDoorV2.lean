import Derived.Test.YtchllgkgjompgaaGreatDoorM9
import Derived.Test.YtchllgkgjompgaaGreatDoorR4
import Derived.Test.YtchllgkgjompgaaGreatDoorU2
import Derived.Test.YtchllgkgjompgaaGreatDoorU3
import Derived.Deep.RegionHeld3
namespace Go.Proofs.YtchllgkgjompgaaGreatDoor
set_option maxHeartbeats 4000000
set_option maxRecDepth 100000
open Go.RowKit
set_option linter.unusedVariables false
open Lib(hid)
open Go.Proofs.Tryz
theorem terms_row {w:World} {P:Nat→Prop} {k n:Int} {ts:List TM} {A:Option Addr} {cap:Nat} (h:TermIn w P (.node k n ts) A cap):∃ps:List (TM×Option Addr×Nat),ps.map (·.1)=ts∧ps.length=ts.length∧(∀p∈ps,TermIn w P p.1 p.2.1 p.2.2)∧
    (0<ts.length→∃b o,A=some ⟨b,o,none⟩∧P b∧∀j u,(flatM ps)[j]? =some u→w.cell? ⟨b,o+j,none⟩=some u):=by
  cases h with
  | mk k n l A cap F C hl hm hc hn=>
    have hlen:(List.ofFn fun i:Fin ts.length=>(ts[i.val],F i.val,C i.val)).length=ts.length:=by simp
    have hget:∀i (h:i<ts.length),(List.ofFn fun i:Fin ts.length=>(ts[i.val],F i.val,C i.val))[i]'(by rw[hlen];exact h)=(ts[i],F i,C i):=fun i h=>by simp
    refine⟨List.ofFn fun i:Fin ts.length=>(ts[i.val],F i.val,C i.val), ?_,hlen, ?_,fun h0=> ?_⟩
    · apply List.ext_getElem
      · rw[List.length_map,hlen]
      · intro i h1 h2;rw[List.getElem_map,hget i h2]
    · intro p hp;rw[List.mem_ofFn]at hp;obtain⟨i,rfl⟩:=hp;exact hn i.val i.isLt
    · obtain⟨b,o,hA,hb,hx⟩:=hc h0;refine⟨b,o,hA,hb,fun j u hj=> ?_⟩;have hjl:j<ts.length*3:=by
        have h1:=(List.getElem?_eq_some_iff.1 hj).1;have h2:(flatM (List.ofFn fun i:Fin ts.length=>(ts[i.val],F i.val,C i.val))).length=ts.length*3:=by
          have:∀ps:List (TM×Option Addr×Nat),(flatM ps).length=ps.length*3:=fun ps=>by
            unfold flatM;rw[List.length_flatMap];induction ps with
            | nil=>rfl
            | cons p ps ih=>simp only[List.map_cons,List.sum_cons,ih,List.length_cons];show 3+_=_;omega
          rw[this,hlen]
        omega
      have hq:j/3<ts.length:=by omega
      have e:j=j/3*3+j % 3:=by omega
      have hf:=flatM_at (List.ofFn fun i:Fin ts.length=>(ts[i.val],F i.val,C i.val)) (j/3) (j % 3) (by rw[hlen];exact hq) (by omega);rw[←e,hget _ hq]at hf;rw[hf]at hj;obtain⟨x0,x1,x2⟩:=hx (j/3) hq;have h3:j % 3=0∨j % 3=1∨j % 3=2:=by omega
      rcases h3 with h3|h3|h3
      · rw[h3]at hj;rw[show o+j=o+j/3*3 by omega,x0];exact hj
      · rw[h3]at hj;rw[show o+j=o+j/3*3+1 by omega,x1];exact hj
      · rw[h3]at hj;rw[show o+j=o+j/3*3+2 by omega,x2];exact hj
theorem flatM_len (ps:List (TM×Option Addr×Nat)):(flatM ps).length=ps.length*3:=by
 unfold flatM;rw[List.length_flatMap];induction ps with
 | nil=>rfl
 | cons p ps ih=>simp only[List.map_cons,List.sum_cons,ih,List.length_cons];show 3+_=_;omega
def CloneIs (ts:List TM) (w:World) (e:Ending) (w':World):Prop:=
 ∃a c ps,e= .returned (.slice a ps.length c)∧TermRow w' w.heap.size 25 (.slice a ps.length c) ps (fun b=>b<w.heap.size)∧ps.map (·.1)=ts∧Below w.heap.size w w'
theorem cloneM_any (ts:List TM) (A:Option Addr) (cap:Nat) (w:World) (h:IsTerms w 0 w.heap.size ts A cap) (hlen:ts.length≤8000):
  Calls prog 123 #[.slice A ts.length cap] w (CloneIs ts w):=by
 obtain⟨i0,hi0,hz0,hz1,hz2⟩:=info_parts infoM;obtain⟨ps,hps,hpl,hpn,hpc⟩:=terms_row h;have q22:∀(w:World) (a:Option Addr) (n c n' c':Nat),(binOp .eql 23 (.slice a n c) (.slice none n' c')).run prog w= .ok (.bool a.isNone) w:=fun w a n c n' c'=>Lib.run_eql_slice_nil w _ _ a n c n' c' Tryz.underlying23;have HPS:=hid hps;have HPL:=hid hpl;have HPN:=hid hpn;have HPC:=hid hpc;have HLN:=hid hlen;clear h hps hpl hpn hpc hlen;cases A with
 | none=>
  have hz:ts.length=0:=by
   cases ht:ts.length with
   | zero=>rfl
   | succ m=>obtain⟨b,o,hA,_⟩:=HPC.out (by omega);cases hA
  have hnil:ts=[]:=List.length_eq_zero_iff.1 hz;subst hnil;have hpn2:ps=[]:=List.length_eq_zero_iff.1 (by rw[HPL.out];rfl);subst hpn2;clear hz;simp only[List.length_nil];go_enter func123,ntmps123;go_wp2_with fail;go_ret;exact⟨none,0,[],rfl,⟨World.ownsRow_nil _ _ _ _,fun b hb=>⟨hb,fun e=>by cases e⟩,fun _ h=>by cases h⟩,rfl,Below.refl _ _⟩
 | some ad=>
  have HOM:=hid (show(w.alloc (.cells #[] 25)).ownsRow w.heap.size 25 3 (.slice (some ⟨w.heap.size,0,none⟩) 0 0) 0 []from World.ownsRow_made w #[] 0 (Nat.le_refl _) (Nat.zero_le _) rfl);have HB1:=hid (show Below w.heap.size w (w.alloc (.cells #[] 25))from(Below.refl _ _).alloc (Nat.le_refl _) _);have HSRC:Hid (Src (w.alloc (.cells #[] 25)) 3 (some ad) ts.length (flatM ps)):=hid ⟨by rw[flatM_len,HPL.out],fun h0=>by
   obtain⟨b,o,hA,hb,hc⟩:=HPC.out h0;refine⟨ad,rfl,fun j u hj=> ?_⟩;injection hA with hA;subst hA;rw[Addr.add_lit];exact(HB1.out.cell (p:=⟨b,o+j,none⟩) hb.2).trans (hc j u hj)⟩
  have hml:ts.length≤8000:=HLN.out;go_enter func123,ntmps123;go_wp2_with (at_builtin;refine wpList_app rfl _ _ 23 rfl w.heap.size 25 i0 (.agg #[.int .i64 0,.int .i64 0,.slice none 0 0]) 3 40 Tryz.underlying23 hi0 hz0 hz1 hz2 rfl (by decide) _ _ _ rfl HOM.out (some ad) ts.length cap (flatM ps) rfl HSRC.out (flatM_one _) ?c3 ?c4 ?c5 ?_)
  case c3=>unfold maxLen;omega
  case c4=>omega
  case c5=>simp
  rintro v2 w4 ⟨ha1,ha2,ha3⟩;obtain⟨a4,c4,rfl⟩:=own_sliceM ha1;have hlt:=ha1.lt;have HBF:=hid (HB1.out.grown ha2 (by simp) (fun g e=>by simp[Value.ownBlock]at e;omega));have HRW:=hid (show TermRow w4 w.heap.size 25 (.slice a4 ps.length c4) ps (fun b=>b<w.heap.size)from by
   have hs:=HBF.out.size;refine⟨by rw[HPL.out];exact ha1,fun b hb=>⟨by omega,fun e=>by have:=hlt b (by rw[HPL.out]at e;exact e);omega⟩,fun p hp=>(HPN.out p hp).imp (fun b o hb=>HBF.out.cell (p:=⟨b,o,none⟩) hb.2) (fun b hb=>hb.2)⟩)
  clear ha1 ha2 ha3 hlt;go_wp2_with fail;go_ret;exact⟨a4,c4,ps,by rw[HPL.out];rfl,HRW.out,HPS.out,HBF.out⟩
theorem backwards_any (ts:List TM) (A:Option Addr) (cap:Nat) (w:World) (h:IsTerms w 0 w.heap.size ts A cap) (hlen:ts.length≤8000):
  Calls prog 212 #[.slice A ts.length cap] w (GivesR ts.reverse w):=by
 have CC:=hid (cloneM_any ts A cap w h hlen);have HLN:=hid hlen;clear h hlen;go_enter func212,ntmps212;go_wp2_with fail;refine CC.out.mono ?_;rintro e w1 ⟨a,c,ps,rfl,hrow,hps,hb⟩;have hpl:ps.length=ts.length:=by rw[←hps,List.length_map]
 have CR:=hid (rev_any hrow hb.size (by have:=HLN.out;omega));have HB:=hid hb;have HPS:=hid hps;have HPL:=hid hpl;clear hrow hps hb hpl CC;go_wp2_with fail;refine CR.out.mono ?_;rintro e w2 ⟨rfl,ht,hb2⟩;have HT:=hid ht;have HB2:=hid (HB.out.trans hb2);clear ht hb2 CR;go_wp2_with fail;go_ret;refine⟨a,c,by rw[List.length_reverse,←HPL.out];rfl, ?_,HB2.out⟩;have:=HT.out.imp (P':=fun b=>0≤b∧b<w2.heap.size) (fun _ _ _=>rfl) (fun b hb=>⟨Nat.zero_le _,hb.2⟩);rw[HPS.out]at this;exact this
theorem fill_any (t:TM) (lo hi:Nat) (A:Option Addr) (cap:Nat) (ls:List TM) (L:Option Addr) (capL:Nat) (w:World) (h:IsTerm w lo hi t A cap) (hhi:hi≤w.heap.size) (h2:IsTerms w 0 w.heap.size ls L capL) (hlen:ls.length≤8000) (hS:ShapesM w):
    Calls prog 196 #[termV t A cap,.slice L ls.length capL] w (GivesT (manyX t ls.reverse) w):=by
  have HW:=hid (show Below w.heap.size w ((w.alloc (.cells #[.int .i64 t.k,.int .i64 t.n,.slice A t.l.length cap] 25)).alloc (.cells #[.int .i64 0,.int .i64 0,.slice none 0 0] 25))from((Below.refl w.heap.size w).alloc (by simp<;>omega) (.cells #[.int .i64 t.k,.int .i64 t.n,.slice A t.l.length cap] 25)).alloc (by simp<;>omega) (.cells #[.int .i64 0,.int .i64 0,.slice none 0 0] 25));have HKT:=hid (fun V (hV:Below (w.heap.size+1) ((w.alloc (.cells #[.int .i64 t.k,.int .i64 t.n,.slice A t.l.length cap] 25)).alloc (.cells #[.int .i64 0,.int .i64 0,.slice none 0 0] 25)) V)=>(show V.cell? ⟨w.heap.size,0,none⟩=some (.int .i64 t.k)∧V.cell? ⟨w.heap.size,1,none⟩=some (.int .i64 t.n)∧V.cell? ⟨w.heap.size,2,none⟩=some (.slice A t.l.length cap)from by
    have hb:Bk V w.heap.size 25 #[.int .i64 t.k,.int .i64 t.n,.slice A t.l.length cap]:=((Bk.new w 25 _).alloc _).below hV (by omega);exact⟨hb.cell 0,hb.cell 1,hb.cell 2⟩))
  have KBR:=hid (fun V (hV:Below ((w.alloc (.cells #[.int .i64 t.k,.int .i64 t.n,.slice A t.l.length cap] 25)).alloc (.cells #[.int .i64 0,.int .i64 0,.slice none 0 0] 25)).heap.size ((w.alloc (.cells #[.int .i64 t.k,.int .i64 t.n,.slice A t.l.length cap] 25)).alloc (.cells #[.int .i64 0,.int .i64 0,.slice none 0 0] 25)) V)=>(show Bk V (w.heap.size+1) 25 #[.int .i64 0,.int .i64 0,.slice none 0 0]from(Bk.last (w.alloc (.cells #[.int .i64 t.k,.int .i64 t.n,.slice A t.l.length cap] 25)) 25 #[.int .i64 0,.int .i64 0,.slice none 0 0] (g:=w.heap.size+1) (by simp)).below hV (by simp<;>omega)));have CB:=hid (fun V (hV:Below w.heap.size w V)=>(backwards_any ls L capL V ((h2.kept hV (Nat.le_refl _)).wide (Nat.le_refl _) hV.size) hlen).mono fun e w' h=>(show ∃a c,e= .returned (.slice a ls.length c)∧IsTerms w' 0 w'.heap.size ls.reverse a c∧Below V.heap.size V w' from by
    obtain⟨a,c,h1,h2,h3⟩:=h;rw[List.length_reverse]at h1;exact⟨a,c,h1,h2,h3⟩))
  have CM:=hid (fun(a:Option Addr) (c:Nat) (V:World) (hV:Below w.heap.size w V) (hr:IsTerms V 0 V.heap.size ls.reverse a c)=>(show Calls prog 139 #[termV t A cap,.slice a ls.length c] V (GivesT (manyX t ls.reverse) V)from by
    have q:=manyc_any t lo hi A cap ls.reverse 0 V.heap.size a c V (h.kept hV hhi) (by have:=hV.size;omega) hr (Nat.le_refl _) (by rw[List.length_reverse];omega) (hS.kept hV);rw[List.length_reverse]at q;exact q))
  obtain⟨x,c,hxc⟩:∃x c,manyX t ls.reverse=(x,c):=⟨_,_,rfl⟩;rw[hxc]at CM⊢;unfold GivesT termV at CM;unfold termV;have hbk0:=hid (show Below ((w.alloc (.cells #[.int .i64 t.k,.int .i64 t.n,.slice A t.l.length cap] 25)).alloc (.cells #[.int .i64 0,.int .i64 0,.slice none 0 0] 25)).heap.size ((w.alloc (.cells #[.int .i64 t.k,.int .i64 t.n,.slice A t.l.length cap] 25)).alloc (.cells #[.int .i64 0,.int .i64 0,.slice none 0 0] 25)) ((w.alloc (.cells #[.int .i64 t.k,.int .i64 t.n,.slice A t.l.length cap] 25)).alloc (.cells #[.int .i64 0,.int .i64 0,.slice none 0 0] 25)).drew from(Below.refl _ _).drew);have HSZ:Hid (w.heap.size+1≤((w.alloc (.cells #[.int .i64 t.k,.int .i64 t.n,.slice A t.l.length cap] 25)).alloc (.cells #[.int .i64 0,.int .i64 0,.slice none 0 0] 25)).heap.size):=hid (by simp);have HSY:Hid (w.heap.size+2≤((w.alloc (.cells #[.int .i64 t.k,.int .i64 t.n,.slice A t.l.length cap] 25)).alloc (.cells #[.int .i64 0,.int .i64 0,.slice none 0 0] 25)).heap.size):=hid (by simp);clear h h2 hxc hhi hlen hS;go_enter func196,ntmps196;go_wp2_with fail;obtain⟨W,hW⟩:∃W,((w.alloc (.cells #[.int .i64 t.k,.int .i64 t.n,.slice A t.l.length cap] 25)).alloc (.cells #[.int .i64 0,.int .i64 0,.slice none 0 0] 25))=W:=⟨_,rfl⟩;rw[hW]at HW HKT KBR hbk0 HSZ HSY⊢;obtain⟨t0,t1,t2⟩:=HKT.out _ (Below.refl _ _);have hsw:=HSY.out;clear hW;go_region_held3 (fun w'=>w'.cell? ⟨w.heap.size,0,none⟩=some (.int .i64 t.k)∧w'.cell? ⟨w.heap.size,1,none⟩=some (.int .i64 t.n)∧w'.cell? ⟨w.heap.size,2,none⟩=some (.slice A t.l.length cap))
    (first|exact HKT.out _ (hbk0.out.mono HSZ.out)|exact HKT.out _ (hbk.out.mono HSZ.out)|exact HKT.out _ (hB5.out.mono HSZ.out)|exact HKT.out _ ((((hB5.out.mono HSZ.out).setCell (by simp<;>omega) _).setCell (by simp<;>omega) _).setCell (by simp<;>omega) _))
    (first
    | (go_at_call 212
       refine(CB.out _ (HW.out.trans (hbk0.out.mono HW.out.size))).mono ?_;rintro e wn ⟨a,ca,rfl,hr,hbn⟩;have hbk:Hid (Below W.heap.size W wn):=hid (hbk0.out.trans (hbn.mono hbk0.out.size));have HR:=hid hr;clear hbn hr)
    | (go_at_call 139
       refine(CM.out a ca _ (HW.out.trans (hbk.out.mono HW.out.size)) HR.out).mono ?_;rintro e w5 ⟨A',cap',rfl,hx,hb3⟩;have hB5:Hid (Below W.heap.size W w5):=hid (hbk.out.trans (hb3.mono hbk.out.size));have HX:=hid hx;have hcn:=hbk.out.size;have hbkv:=KBR.out _ hB5.out;have HBKV:=hid hbkv;have hfz:∀o,w5.frozen? ⟨w.heap.size+1,o,none⟩=false:=fun o=>hbkv.cold o;have d0:=hbkv.cell 0;have d1:=hbkv.cell 1;have d2:=hbkv.cell 2;simp at d0 d1 d2;clear hb3 hx hbkv))
  all_goals
    have HBF:=hid (HW.out.trans (hB5.out.mono HW.out.size));have B5:=((HBKV.out.at_ 0 (.int .i64 x.k)).at_ 1 (.int .i64 x.n)).at_ 2 (.slice A' x.l.length cap');have HS0:=hid (B5.cell 0);have HS1:=hid (B5.cell 1);have HS2:=hid (B5.cell 2);clear B5;go_wp2_with fail;refine bodyPost_ret (v:= .tuple #[.agg #[.int .i64 x.k,.int .i64 x.n,.slice A' x.l.length cap'],.int .i64 c]) (by simp[results,results196,go_sem,HS0.out,HS1.out,HS2.out]) rfl ?_;exact give_term HBF.out (by omega) HX.out (by omega)
end Go.Proofs.YtchllgkgjompgaaGreatDoor
