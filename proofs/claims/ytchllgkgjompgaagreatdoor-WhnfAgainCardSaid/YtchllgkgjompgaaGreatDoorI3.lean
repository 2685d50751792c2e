import Derived.Test.YtchllgkgjompgaaGreatDoorC3
import Derived.Test.YtchllgkgjompgaaGreatDoorV2
import Derived.Test.YtchllgkgjompgaaGreatDoorM7
import Derived.Test.YtchllgkgjompgaaGreatDoorS7
import Derived.Deep.RegionHeld3
import Derived.Test.YtchllgkgjompgaaGreatDoorM9
import Derived.Test.YtchllgkgjompgaaGreatDoorS6
namespace Go.Proofs.YtchllgkgjompgaaGreatDoor
set_option maxHeartbeats 4000000
set_option maxRecDepth 100000
open Go.RowKit
set_option linter.unusedVariables false
open Lib(hid)
open Go.Proofs.Tryz
theorem lrI3{n:Nat}:n≤n:=Nat.le_refl n
theorem flatM_app (ps qs:List (TM×Option Addr×Nat)):flatM (ps++qs)=flatM ps++flatM qs:=by unfold flatM;rw[List.flatMap_append]
theorem TermRow.pushes {w w':World} {base:Nat} {e:TypeId} {v v':Value} {ps qs:List (TM×Option Addr×Nat)} {P:Nat→Prop} (h:TermRow w base e v ps P)
    (hn:∀q∈qs,TermIn w P q.1 q.2.1 q.2.2)
    (hr:w'.ownsRow base e 3 v' (ps.length+qs.length) (flatM ps++flatM qs)) (hg:w.grownBy w' v.ownBlock) (ho:v'.ownBlock=v.ownBlock∨v'.ownBlock=some w.heap.size):TermRow w' base e v' (ps++qs) P:=by
  have hcell:∀b o,P b→w'.cell? ⟨b,o,none⟩=w.cell? ⟨b,o,none⟩:=fun b o hb'=>World.cell?_of_block (a:=⟨b,o,none⟩) (hg.block b (h.far b hb').1 (fun e=>(h.far b hb').2 e.symm));refine⟨by rw[flatM_app,List.length_append];exact hr,fun b hb'=>⟨Nat.lt_of_lt_of_le (h.far b hb').1 hg.size,fun e=> ?_⟩,fun q hq=> ?_⟩
  · rcases ho with ho|ho
    · exact(h.far b hb').2 (ho.symm.trans e)
    · have:=(h.far b hb').1;rw[ho]at e;injection e with e;omega
  · rcases List.mem_append.1 hq with hq|hq
    · exact(h.node q hq).imp (fun b o hb'=>hcell b o hb') (fun b hb'=>hb')
    · exact(hn q hq).imp (fun b o hb'=>hcell b o hb') (fun b hb'=>hb')
theorem flatL_len (vs:List LL) {i:Nat} (h:i<vs.length):(flatL (vs.take (i+1))).length=(flatL (vs.take i)).length+vs[i].1.length:=by rw[flatL_take h,List.length_append]
theorem flatL_le (vs:List LL) (i:Nat):(flatL (vs.take i)).length≤(flatL vs).length:=by
 have h:flatL vs=flatL (vs.take i)++flatL (vs.drop i):=by
  unfold flatL;rw[←List.flatMap_append,List.take_append_drop]
 rw[h,List.length_append];omega
def GivesRow (ts:List TM) (hi:Nat) (w:World) (e:Ending) (w':World):Prop:=
 ∃A c ps,e= .returned (.slice A ts.length c)∧TermRow w' w.heap.size 25 (.slice A ts.length c) ps (fun b=>b<hi)∧ps.map (·.1)=ts∧Below w.heap.size w w'
theorem GivesRow.gives {ts:List TM} {hi:Nat} {w w':World} {e:Ending} (h:GivesRow ts hi w e w'):GivesR ts w e w':=by
 obtain⟨A,c,ps,h1,h2,h3,h4⟩:=h;have hl:ts.length=ps.length:=by rw[←h3,List.length_map]
 refine⟨A,c,h1, ?_,h4⟩;rw[hl]at h2;have:=h2.parent (lo:=0) (Nat.zero_le _) (fun _ _=>Nat.zero_le _) 0 0
 rwa [h3]at this
def CatRel1 (vs:List LL) (w:World) (nv iv:Value) (wr:World):Prop:=∃i:Nat,i≤vs.length∧iv= .int .i64 i∧nv= .int .i64 ((flatL (vs.take i)).length:Nat)∧w=wr
def CatRel2 (vs:List LL) (hi:Nat) (w:World) (nv iv:Value) (wr:World):Prop:=
 ∃(i:Nat) (ps:List (TM×Option Addr×Nat)),i≤vs.length∧iv= .int .i64 i∧Below w.heap.size w wr∧TermRow wr w.heap.size 25 nv ps (fun b=>b<hi)∧ps.map (·.1)=flatL (vs.take i)
theorem concatM_any (vs:List LL) (hi g:Nat) (w:World) (h2:LsAt w hi g vs) (hlen:vs.length≤100) (htot:(flatL vs).length≤8000):
  Calls prog 145 #[.slice (some ⟨g,0,none⟩) vs.length vs.length] w (GivesRow (flatL vs) hi w):=by
 obtain⟨i0,hi0,hz0,hz1,hz2⟩:=info_parts infoM;have HV:=hid h2.at_;have hgl:=h2.gl;have HHL:=hid h2.hl;have HTOT:=hid htot;have CG:=hid (fun(n:Nat) (hn:n=(flatL vs).length)=>growM_any n (by omega) w);clear h2 htot;go_enter func145,ntmps145;go_wp2_with fail;go_loopw [3,11] (CatRel1 vs w) (fun _ iv _=>vs.length - (intOf iv).toNat)
 case atStart=>exact⟨0,Nat.zero_le _,rfl,rfl,rfl⟩
 case round=>
  obtain⟨i,hi1,rfl,rfl,rfl⟩:=hrel;obtain⟨m,hm⟩:∃m,(flatL (vs.take i)).length=m:=⟨_,rfl⟩;have hm9:m≤8000:=by have:=flatL_le vs i;have:=HTOT.out;omega
  by_cases hil:i<vs.length
  ·obtain⟨hc,hts⟩:=HV.out i hil;have hst:=flatL_len vs hil;have hle:=flatL_le vs (i+1);rw[hm]at hst⊢;obtain⟨p,hp⟩:∃p,vs[i]=p:=⟨_,rfl⟩;rw[hp]at hc hts hst;obtain⟨xs,B,cb⟩:=p;unfold valL at hc;simp only at hc hts hst;have hi1':(i:Int)<(vs.length:Int):=by omega
   have hi0':(0:Int)≤(i:Int):=by omega
   obtain⟨n,hn⟩:∃n,xs.length=n:=⟨_,rfl⟩;rw[hn]at hc hst;have hn9:n≤8000:=by have:=HTOT.out;omega
   have wr1:IntKind.i64.wrap ((m:Int)+(n:Int))=(m:Int)+(n:Int):=IntWalk.i64_in _ (by omega);have t0:decide ((m:Int)+(n:Int)<0)=false:=decide_eq_false (by omega);have HST:=hid hst;clear hts hp hst hm hle hn;go_wp2_with fail;go_roundw
   case rel=>exact⟨i+1,by omega,by go_num,by rw[HST.out];congr 1,rfl⟩
   case measure=>simp[intOf];omega
  ·obtain rfl:i=vs.length:=by omega
   rw[List.take_length]at hm⊢;rw[hm];have CG2:=hid (CG.out m hm.symm);have HM:=hid hm;clear hm;go_wp2_with fail;refine CG2.out.mono ?_;rintro e w1 ⟨v0,rfl,ho0,hbx⟩;obtain⟨a0,cc0,rfl⟩:=own_sliceM ho0;have HO0:=hid ho0;have HB0:=hid hbx;have hlt0:=ho0.lt;have HLT0:=hid hlt0;clear ho0 hbx CG CG2 hlt0;go_wp2_with fail;go_loopw [6,27] (CatRel2 vs hi w) (fun _ iv _=>vs.length - (intOf iv).toNat)
   case atStart=>exact⟨0,[],Nat.zero_le _,rfl,HB0.out,⟨HO0.out,fun b hb=>⟨by have:=HB0.out.size;have:=HHL.out;omega,fun e=>by have:=HLT0.out b e;have:=HHL.out;omega⟩,fun _ h=>by cases h⟩,rfl⟩
   case round=>
    obtain⟨i,ps,hi1,rfl,hB,hrow,hps⟩:=hrel;have hz:=hB.size;obtain⟨a1,c1,rfl⟩:=own_sliceM hrow.row;have hpl:ps.length=(flatL (vs.take i)).length:=by rw[←hps,List.length_map]
    have hpm:ps.length≤8000:=by have:=flatL_le vs i;have:=HTOT.out;omega
    have HPS:=hid hps;have HROW:=hid hrow;have HOW:=hid hrow.row;have hlt1:=hrow.row.lt;have HLT1:=hid hlt1;have HBB:=hid hB;have HPL:=hid hpl;clear hrow hps hpl hlt1;by_cases hil:i<vs.length
    ·obtain⟨hc,hts⟩:=HV.out i hil;have hst:=flatL_take hil;have hle:=flatL_le vs (i+1);obtain⟨p,hp⟩:∃p,vs[i]=p:=⟨_,rfl⟩;rw[hp]at hc hts hst;obtain⟨xs,B,cb⟩:=p;unfold valL at hc;simp only at hc hts hst;have hc':wr.cell? ⟨g,i,none⟩=some (.slice B xs.length cb):=(hB.cell (p:=⟨g,i,none⟩) hgl).trans hc;have hgr:g<wr.heap.size:=by omega
     have hi1':(i:Int)<(vs.length:Int):=by omega
     have hi0':(0:Int)≤(i:Int):=by omega
     have hn9:ps.length+xs.length≤8000:=by rw[hst,List.length_append,←HPL.out]at hle;have:=HTOT.out;omega
     obtain⟨qs,q1,q2,q3,q4⟩:=terms_row (hts.kept hB HHL.out);have HSRC:Hid (Src wr 3 B xs.length (flatM qs)):=hid ⟨by rw[flatM_len,q2],fun h0=>by
      obtain⟨b,o,hA,hb,hcc⟩:=q4 h0;refine⟨⟨b,o,none⟩,hA,fun j u hj=> ?_⟩;rw[Addr.add_lit];exact hcc j u hj⟩
     have HQ1:=hid q1;have HQ2:=hid q2;have HQ3:=hid q3;have HST:=hid hst;clear hts hp hst hc q1 q2 q3 q4 hle;go_wp2_with (at_builtin;refine wpList_app rfl _ _ 23 rfl w.heap.size 25 i0 (.agg #[.int .i64 0,.int .i64 0,.slice none 0 0]) 3 40 Tryz.underlying23 hi0 hz0 hz1 hz2 rfl (by decide) _ _ _ rfl HOW.out B xs.length cb (flatM qs) rfl HSRC.out (flatM_one _) ?c3 ?c4 ?c5 ?_)
     case c3=>unfold maxLen;omega
     case c4=>omega
     case c5=>omega
     rintro v2' w3 ⟨hown3,hg3,ho3⟩;have HRow:=hid (HROW.out.pushes (qs:=qs) (fun q hq=>(HQ3.out q hq).imp (fun _ _ _=>rfl) (fun b hb=>hb.2)) (by rw[HQ2.out];exact hown3) hg3 ho3);have HB4:=hid (HBB.out.grown hg3 hz (fun g e=>by have:=HLT1.out g e;omega));clear hown3 hg3 ho3;go_wp2_with fail;go_roundw
     case rel=>exact⟨i+1,ps++qs,by omega,by go_num,HB4.out,HRow.out,by rw[List.map_append,HPS.out,HQ1.out,HST.out]⟩
     case measure=>simp[intOf];omega
    ·have HIN:=hid (show i=vs.length by omega);have hge: ¬ (i:Int)<(vs.length:Int):=by omega
     have HFULL:Hid (ps.map (·.1)=flatL vs):=hid (by rw[HPS.out,List.take_of_length_le (by omega)]);have HLL:Hid (ps.length=(flatL vs).length):=hid (by rw[←HFULL.out,List.length_map]);go_wp2_with fail;go_ret;rw[HLL.out];exact⟨a1,c1,ps,rfl,by rw[←HLL.out];exact HROW.out,HFULL.out,HBB.out⟩
def laidX (κ:Int) (l:List TM) (t:TM):TM×Int:=if(aroundX κ l t).2=0 then aroundX κ l t else(.node 0 0 [],2)
theorem around_two (κ:Int) (l:List TM) (t:TM):∃u c,aroundX κ l t=(u,c):=⟨_,_,rfl⟩
theorem laidLam_any (l:List TM) (L:Option Addr) (capL:Nat) (t:TM) (A:Option Addr) (cap:Nat) (w:World) (hl:IsTerms w 0 w.heap.size l L capL) (ht:IsTerm w 0 w.heap.size t A cap) (hS:ShapesM w):
  Calls prog 174 #[.func (.func 147) #[] #[],.slice L l.length capL,termV t A cap] w (GivesT (laidX 4 l t) w):=by
 obtain⟨X,hX⟩:∃X,(w.alloc (.cells #[.int .i64 t.k,.int .i64 t.n,.slice A t.l.length cap] 25)).alloc (.cells #[.int .i64 0,.int .i64 0,.slice none 0 0] 25)=X:=⟨_,rfl⟩;have HBX:=hid (show Below w.heap.size w X from by rw[←hX];exact((Below.refl _ _).alloc lrI3 _).alloc (by simp) _);have HSX:=hid (show w.heap.size+2≤X.heap.size from by rw[←hX];simp);have HK1:=hid (show Bk X w.heap.size 25 #[.int .i64 t.k,.int .i64 t.n,.slice A t.l.length cap]from by rw[←hX];exact(Bk.new w _ _).alloc _);have HK2:=hid (show Bk X (w.heap.size+1) 25 #[.int .i64 0,.int .i64 0,.slice none 0 0]from by rw[←hX];exact Bk.last _ _ _ (by simp));have x0:X.cell? ⟨w.heap.size,0,none⟩=some (.int .i64 t.k):=HK1.out.cell 0;have x1:X.cell? ⟨w.heap.size,1,none⟩=some (.int .i64 t.n):=HK1.out.cell 1;have x2:X.cell? ⟨w.heap.size,2,none⟩=some (.slice A t.l.length cap):=HK1.out.cell 2;have CP:=hid (lams_any l L capL t A cap X ((hl.kept HBX.out lrI3).wide lrI3 HBX.out.size) ((ht.kept HBX.out lrI3).wide lrI3 HBX.out.size) (hS.kept HBX.out));have HLX:Hid (laidX 4 l t=if(aroundX 4 l t).2=0 then aroundX 4 l t else(.node 0 0 [],2)):=hid rfl;obtain⟨u,c,huc⟩:=around_two 4 l t;obtain⟨r,hr⟩:∃r,laidX 4 l t=r:=⟨_,rfl⟩;rw[huc]at CP HLX;rw[hr]at HLX⊢;unfold GivesT termV at CP;unfold termV;clear hl ht hS huc hr;go_enter func174,ntmps174;go_wp2_with fail;refine CP.out.mono ?_;rintro e w1 ⟨B,d,rfl,hu,hb1⟩;have HB1:=hid (HBX.out.trans (hb1.mono HBX.out.size));have HU:=hid hu;have K1:=HK1.out.below hb1 HK1.out.lt;have K2:=HK2.out.below hb1 HK2.out.lt;have HQ1:=hid K1;have HQ2:=hid K2;have hfz:∀q,w1.frozen? ⟨w.heap.size,q,none⟩=false:=fun q=>K1.cold q;have hfz2:∀q,w1.frozen? ⟨w.heap.size+1,q,none⟩=false:=fun q=>K2.cold q;have y0:w1.cell? ⟨w.heap.size,0,none⟩=some (.int .i64 t.k):=K1.cell 0;have y1:w1.cell? ⟨w.heap.size,1,none⟩=some (.int .i64 t.n):=K1.cell 1;have y2:w1.cell? ⟨w.heap.size,2,none⟩=some (.slice A t.l.length cap):=K1.cell 2;have z0:w1.cell? ⟨w.heap.size+1,0,none⟩=some (.int .i64 0):=K2.cell 0;have z1:w1.cell? ⟨w.heap.size+1,1,none⟩=some (.int .i64 0):=K2.cell 1;have z2:w1.cell? ⟨w.heap.size+1,2,none⟩=some (.slice none 0 0):=K2.cell 2;have HHX:=hid hb1.size;clear K1 K2 hb1 hu x0 x1 x2 hX;by_cases h0:c=0
 ·subst h0;have HR:=hid (show r=(u,0)from HLX.out.trans (if_pos rfl));have B1:=((HQ1.out.at_ 0 (.int .i64 u.k)).at_ 1 (.int .i64 u.n)).at_ 2 (.slice B u.l.length d);have B2:=((HQ2.out.far (a:=⟨w.heap.size,0,none⟩) (by simp) (.int .i64 u.k)).far (a:=⟨w.heap.size,1,none⟩) (by simp) (.int .i64 u.n)).far (a:=⟨w.heap.size,2,none⟩) (by simp) (.slice B u.l.length d);have B3:=((B2.at_ 0 (.int .i64 u.k)).at_ 1 (.int .i64 u.n)).at_ 2 (.slice B u.l.length d);have HS0:=hid (B3.cell 0);have HS1:=hid (B3.cell 1);have HS2:=hid (B3.cell 2);clear B1 B2 B3 HLX;go_wp2_with fail;refine bodyPost_ret (v:= .tuple #[.agg #[.int .i64 u.k,.int .i64 u.n,.slice B u.l.length d],.int .i64 0]) (by simp[results,results174,go_sem,HS0.out,HS1.out,HS2.out]) rfl ?_;rw[HR.out];refine⟨B,d,rfl, ?_,(((((HB1.out.setCell (by simp) _).setCell (by simp) _).setCell (by simp) _).setCell (by simp) _).setCell (by simp) _).setCell (by simp) _⟩;have q:=(TermIn.three (g:=w.heap.size) HU.out (fun b hb=>by have:=hb.1;have:=HSX.out;omega) (.int .i64 u.k) (.int .i64 u.n) (.slice B u.l.length d)).three (g:=w.heap.size+1) (fun b hb=>by have:=hb.1;have:=HSX.out;omega) (.int .i64 u.k) (.int .i64 u.n) (.slice B u.l.length d);exact q.imp (fun _ _ _=>rfl) (fun b hb=>⟨by have:=hb.1;have:=HSX.out;omega,by rw[size_three,size_three];exact hb.2⟩)
 ·have t0:(c !=0)=true:=by simpa using h0
  have HR:=hid (show r=(.node 0 0 [],2)from HLX.out.trans (if_neg h0));have B2:=((HQ2.out.far (a:=⟨w.heap.size,0,none⟩) (by simp) (.int .i64 u.k)).far (a:=⟨w.heap.size,1,none⟩) (by simp) (.int .i64 u.n)).far (a:=⟨w.heap.size,2,none⟩) (by simp) (.slice B u.l.length d);have B3:=((B2.at_ 0 (.int .i64 0)).at_ 1 (.int .i64 0)).at_ 2 (.slice none 0 0);have HS0:=hid (B3.cell 0);have HS1:=hid (B3.cell 1);have HS2:=hid (B3.cell 2);clear B2 B3 h0 HLX;go_wp2_with fail;refine bodyPost_ret (v:= .tuple #[.agg #[.int .i64 0,.int .i64 0,.slice none 0 0],.int .i64 2]) (by simp[results,results174,go_sem,HS0.out,HS1.out,HS2.out]) rfl ?_;rw[HR.out];exact give_zero (((HB1.out.setCell (by simp) _).setCell (by simp) _).setCell (by simp) _) (by simp)
theorem cl_ishaped (t:TM) (lo hi:Nat) (A:Option Addr) (cap:Nat) (w:World) (h:IsTerm w lo hi t A cap) (hhi:hi≤w.heap.size) (hS:ShapesM w):
  Calls prog 171 #[termV t A cap] w fun e w'=>e= .returned (.bool (!shapedB t))∧Below w.heap.size w w':=by
 have HW:=hid (show Below w.heap.size w (w.alloc (.cells #[.int .i64 t.k,.int .i64 t.n,.slice A t.l.length cap] 25))from(Below.refl _ _).alloc lrI3 _);have HC:=hid (shaped_any t lo hi A cap (w.alloc (.cells #[.int .i64 t.k,.int .i64 t.n,.slice A t.l.length cap] 25)) (h.kept HW.out hhi) (by simp;omega) (hS.kept HW.out));obtain⟨b,hb⟩:∃b,shapedB t=b:=⟨_,rfl⟩;rw[hb]at HC⊢;clear h hS hb;unfold termV at HC⊢;go_enter func171,ntmps171;go_wp2_with fail;refine HC.out.mono ?_;rintro e w1 ⟨rfl,hb1⟩;have HB1:=hid (HW.out.trans (hb1.mono (by simp)));clear hb1;cases b
 all_goals
  go_wp2_with fail;go_ret;exact⟨rfl,HB1.out⟩
theorem tindexI_any (l:List TM) (A:Option Addr) (cap lo hi:Nat) (Q:Nat→Bool) (w:World) (hl:l.length≤maxLen) (hn:TermsAt w lo hi A l) (hhi:hi≤w.heap.size) (ht:TestT w 171 [] l Q):
  Calls prog 179 #[.slice A l.length cap,.func (.func 171) #[] #[]] w (SomeIdx Q l.length w):=by
 have HN:=hid hn;have HT:=hid ht;unfold maxLen at hl;clear hn ht;go_enter func179,ntmps179;go_wp2_with fail;go_loopw [8] (fun iv wr=>∃i:Nat,i≤l.length∧iv= .int .i64 i∧Below w.heap.size w wr∧Hid (∀j,j<i→Q j=false)) (fun iv _=>l.length - (intOf iv).toNat)
 case atStart=>exact⟨0,Nat.zero_le _,rfl,Below.refl _ _,hid (fun j hj=>by omega)⟩
 case round=>
  obtain⟨i,hi1,rfl,hB,HQ⟩:=hrel;have hz:=hB.size;by_cases hil:i<l.length
  ·obtain⟨b,o,F,C,rfl,hb1,hb2,hx,hnode⟩:=(HN.out i hil).kept hB hhi;obtain⟨x0,x1,x2⟩:=hx;have HR:=hid (HT.out i hil lo hi F C wr hB hnode (by omega));clear HT HN;cases hq:Q i with
   | true=>
    rw[hq]at HR;have HQ2:=hid hq;clear hq;go_wp2_with fail;refine HR.out.mono ?_;rintro e w1 ⟨rfl,hb1⟩;go_wp2_with fail;go_ret;exact⟨_,rfl,.inr ⟨by omega,i,hil,HQ2.out⟩,hB.trans (hb1.mono hz)⟩
   | false=>
    rw[hq]at HR;have HQ2:=hid hq;clear hq;go_wp2_with fail;refine HR.out.mono ?_;rintro e w1 ⟨rfl,hb1⟩;go_wp2_with fail;go_roundw
    case rel=>
     refine⟨i+1,by omega,rfl,hB.trans (hb1.mono hz),hid (fun j hj=> ?_)⟩;by_cases e:j<i
     ·exact HQ.out j e
     ·obtain rfl:j=i:=by omega
      exact HQ2.out
    case measure=>simp[intOf];omega
  ·obtain rfl:i=l.length:=by omega
   clear HT HN;go_wp2_with fail;go_ret;exact⟨_,rfl,.inl ⟨rfl,HQ.out⟩,hB⟩
theorem containsI_any (l:List TM) (lo hi:Nat) (A:Option Addr) (cap:Nat) (w:World) (h:IsTerms w lo hi l A cap) (hhi:hi≤w.heap.size) (hS:ShapesM w):
  Calls prog 153 #[.slice A l.length cap,.func (.func 171) #[] #[]] w fun e w'=>e= .returned (.bool (!l.all shapedB))∧Below w.heap.size w w':=by
 obtain⟨hl,hm⟩:=h.bounds;have HI:=hid (tindexI_any l A cap lo hi (tatB (fun t=> !shapedB t) l) w (by omega) (fun i hi'=>h.sub i hi') hhi (fun i hi' lo2 hi2 F C V hV hx hz=>by
  rw[tatB_of _ hi'];exact cl_ishaped l[i] lo2 hi2 F C V hx hz (hS.kept hV)))
 have hno:(∀j,j<l.length→tatB (fun t=> !shapedB t) l j=false)→l.all shapedB=true:=fun hq=>by
  rw[List.all_eq_true];intro x hx;obtain⟨i,hi,rfl⟩:=List.mem_iff_getElem.1 hx;have:=hq i hi;rw[tatB_of _ hi]at this;simpa using this
 have hyes:(∃i,i<l.length∧tatB (fun t=> !shapedB t) l i=true)→l.all shapedB=false:=fun⟨i,hi,hq⟩=>by
  rw[tatB_of _ hi]at hq;cases e:l.all shapedB with
  | false=>rfl
  | true=>
   rw[List.all_eq_true]at e;rw[e _ (List.getElem_mem hi)]at hq;cases hq
 have HNO:=hid hno;have HYES:=hid hyes;clear h hS hno hyes hl hm;go_enter func153,ntmps153;go_wp2_with fail;refine HI.out.mono ?_;rintro e w1 ⟨r,rfl,hr,hb⟩;have HB:=hid hb;clear hb;rcases hr with ⟨rfl,hall⟩|⟨h0,i,hi,hq⟩
 ·have HE:=hid (HNO.out hall);clear hall;go_wp2_with fail;go_ret;exact⟨by rw[HE.out];rfl,HB.out⟩
 ·have HE:=hid (HYES.out ⟨i,hi,hq⟩);have t0:decide (0≤r)=true:=decide_eq_true h0;have t1:decide (r≥0)=true:=decide_eq_true h0;clear hq hi h0;go_wp2_with fail;go_ret;exact⟨by rw[HE.out];rfl,HB.out⟩
def shN (l:List TM) (n:Int):Bool:=decide ((l.length:Int)=n) && l.all shapedB
theorem ishaped_any (l:List TM) (n:Int) (lo hi:Nat) (A:Option Addr) (cap:Nat) (w:World) (h:IsTerms w lo hi l A cap) (hhi:hi≤w.heap.size) (hS:ShapesM w):
  Calls prog 142 #[.slice A l.length cap,.int .i64 n] w fun e w'=>e= .returned (.bool (shN l n))∧Below w.heap.size w w':=by
 have HC:=hid (containsI_any l lo hi A cap w h hhi hS);have HSH:=hid (show shN l n=(decide ((l.length:Int)=n) && l.all shapedB)from rfl);obtain⟨z,hz⟩:∃z,shN l n=z:=⟨_,rfl⟩;rw[hz]at HSH⊢;clear h hS hz;by_cases e:(l.length:Int)=n
 ·have t0:((l.length:Int)==n)=true:=by simpa using e
  obtain⟨q,hq⟩:∃q,l.all shapedB=q:=⟨_,rfl⟩;rw[hq]at HC HSH;have HZ:=hid (show z=q from by rw[HSH.out,decide_eq_true e,Bool.true_and]);clear hq e HSH;go_enter func142,ntmps142;go_wp2_with fail;refine HC.out.mono ?_;rintro e w1 ⟨rfl,hb⟩;have HB:=hid hb;clear hb HC;cases q
  all_goals
   go_wp2_with fail;go_ret;exact⟨by rw[HZ.out];rfl,HB.out⟩
 ·have t0:((l.length:Int)==n)=false:=by simpa using e
  have HZ:=hid (show z=false from by rw[HSH.out,decide_eq_false e];rfl);clear e HSH HC;go_enter func142,ntmps142;go_wp2_with fail;go_ret;exact⟨by rw[HZ.out];rfl,Below.refl _ _⟩
end Go.Proofs.YtchllgkgjompgaaGreatDoor
