import Derived.Test.YtchllgkgjompgaaGreatDoorS7
import Derived.Test.YtchllgkgjompgaaGreatDoorC2
import Derived.Test.YtchllgkgjompgaaGreatDoorS6
import Derived.Test.YtchllgkgjompgaaGreatDoorS4
import Derived.Deep.RegionLaw
import Derived.Deep.Cut
namespace Go.Proofs.YtchllgkgjompgaaGreatDoor
open Go.RowKit
set_option linter.unusedVariables false
set_option maxRecDepth 100000
open Lib(hid)
open Go.Proofs.Tryz
def GivesRc (r:RcT) (w:World) (e:Ending) (w':World):Prop:=∃v1 v2,e= .returned (.agg #[.bool r.is,v1,v2])∧RecV w' w.heap.size w'.heap.size r v1 v2∧Below w.heap.size w w'
theorem rec_no {d:Int} {ps mo bs:Nat} {t:TM} (h:(decide (pisN t≤24) && appB (benT t) d ps mo (bs+pisN t))=false):recT d ps mo t bs=zeroRc:=by
 unfold recT;rw[h];rfl
set_option maxHeartbeats 4000000 in
theorem rec13_any (l:List ET) (A:Option Addr) (cap m:Nat) (hm:m<l.length) (t:TM) (T:Option Addr) (tc bs lo hi lo' hi':Nat) (w:World) (hl:l.length≤600) (hn:EntsAt w lo hi A l) (hhi:hi≤w.heap.size)
    (ht:IsTerm w lo' hi' t T tc) (hhi':hi'≤w.heap.size) (hS:ShapesM w) (hs:shapedB t=true) (ha:0≤l[m].a) (hi0:0≤l[m].i) (hai:l[m].a+l[m].i≤24) (hb:l[m].a≤(bs:Int)) (hbs:bs≤900):
    Calls prog 167 #[.slice A l.length cap,.int .i64 m,termV t T tc,.int .i64 bs] w (GivesRc (recT m l[m].a.toNat l[m].i.toNat t bs) w):=by
  obtain⟨X,hX⟩:∃X,(w.alloc (.cells #[.int .i64 t.k,.int .i64 t.n,.slice T t.l.length tc] 25)).alloc (.cells #[.bool false,.slice none 0 0,.slice none 0 0] 204)=X:=⟨_,rfl⟩;have HBX:=hid (show Below w.heap.size w X from by rw[←hX];exact((Below.refl _ _).alloc (Nat.le_refl _) _).alloc (by simp) _);have HSX:=hid (show w.heap.size+2≤X.heap.size from by rw[←hX];simp);have HK1:=hid (show Bk X w.heap.size 25 #[.int .i64 t.k,.int .i64 t.n,.slice T t.l.length tc]from by rw[←hX];exact(Bk.new w _ _).alloc _);have HK2:=hid (show Bk X (w.heap.size+1) 204 #[.bool false,.slice none 0 0,.slice none 0 0]from by rw[←hX];exact Bk.last _ _ _ (by simp));have x0:X.cell? ⟨w.heap.size,0,none⟩=some (.int .i64 t.k):=HK1.out.cell 0;have x1:X.cell? ⟨w.heap.size,1,none⟩=some (.int .i64 t.n):=HK1.out.cell 1;have x2:X.cell? ⟨w.heap.size,2,none⟩=some (.slice T t.l.length tc):=HK1.out.cell 2;have CW:=hid ((whole_any t T tc X ((ht.kept HBX.out hhi').wide (Nat.zero_le _) (by have:=HBX.out.size;omega)) (hS.kept HBX.out)));by_cases hp:pisN t≤24
  case neg=>
    rw[rec_no (by rw[decide_eq_false hp];rfl)];rw[whole_many hs (by omega)]at CW;unfold GivesS termV at CW;simp only[TM.k,TM.n,TM.l,List.length_nil]at CW;unfold termV;clear hn hS ht hp;go_enter func167,ntmps167;go_wp2_with fail;refine CW.out.mono ?_;rintro e w1 ⟨B,c,D,d,rfl, -, -,hb1⟩;have HB1:=hid (HBX.out.trans (hb1.mono HBX.out.size));have HK:=hid (HK2.out.below hb1 HK2.out.lt);obtain⟨Y,hY⟩:∃Y,w1.alloc (.cells #[.int .i64 0,.int .i64 0,.slice D 0 d] 25)=Y:=⟨_,rfl⟩;have HBY0:=hid (show Below w1.heap.size w1 Y from by rw[←hY];exact(Below.refl _ _).alloc (Nat.le_refl _) _);have HBY:=hid (HB1.out.trans (HBY0.out.mono HB1.out.size));have HKY:=hid (HK.out.below HBY0.out HK.out.lt);have hfz:∀q,Y.frozen? ⟨w.heap.size+1,q,none⟩=false:=fun q=>HKY.out.cold q;have z0:Y.cell? ⟨w.heap.size+1,0,none⟩=some (.bool false):=HKY.out.cell 0;have z1:Y.cell? ⟨w.heap.size+1,1,none⟩=some (.slice none 0 0):=HKY.out.cell 1;have z2:Y.cell? ⟨w.heap.size+1,2,none⟩=some (.slice none 0 0):=HKY.out.cell 2;have HS0:=hid (((HKY.out.at_ 0 (.bool false)).at_ 1 (.slice none 0 0)).at_ 2 (.slice none 0 0));clear x0 x1 x2 hb1 hX;go_wp2_with fail;have s0:=HS0.out.cell 0;have s1:=HS0.out.cell 1;have s2:=HS0.out.cell 2;refine bodyPost_ret (v:= .agg #[.bool false,.slice none 0 0,.slice none 0 0]) (by simp[results,results167,go_sem,s0,s1,s2]) rfl ?_;exact⟨.slice none 0 0,.slice none 0 0,rfl,RecV.zero _ _ _,((HBY.out.setCell (by simp) _).setCell (by simp) _).setCell (by simp) _⟩
  rw[whole_few hs hp]at CW;unfold GivesS termV at CW;have htf:=tel_facts hs;obtain⟨n,hnn⟩:∃n,(telT t).length=n:=⟨_,rfl⟩;have hpn:pisN t=n:=htf.1.symm.trans hnn;rw[hpn]at hp;have CI:=hid (fun(D:Option Addr) (d lo1 hi1:Nat) (V:World) (hV:Below w.heap.size w V) (h:IsTerm V lo1 hi1 (benT t) D d) (hh1:hi1≤V.heap.size)=>(indP_any l A cap m hm (benT t) D d (bs+n) lo hi lo1 hi1 V hl (hn.kept hV hhi) (by have:=hV.size;omega) h hh1 (hS.kept hV) htf.2.2.1 ha hi0 hai (by omega) (by omega)));have HTS:=hid htf.2.2.2;have HAS:=hid (head_args_shaped htf.2.2.1).2;have hres:recT m l[m].a.toNat l[m].i.toNat t bs=if appB (benT t) m l[m].a.toNat l[m].i.toNat (bs+n)then⟨true,telT t,(argsT (benT t)).drop l[m].a.toNat⟩else zeroRc:=by
    unfold recT;rw[hpn,decide_eq_true hp,Bool.true_and]
  rw[hres];obtain⟨bb,hbb⟩:∃b,appB (benT t) m l[m].a.toNat l[m].i.toNat (bs+n)=b:=⟨_,rfl⟩;obtain⟨ix,hix⟩:∃i,(argsT (benT t)).drop l[m].a.toNat=i:=⟨_,rfl⟩;have HIX:=hid (show ∀u∈ix,tgoodB u=true from fun u hu=>by rw[←hix]at hu;exact(shapedB_true.1 (HAS.out u (List.mem_of_mem_drop hu))).2.2);have HTS2:=hid (show ∀u∈telT t,tgoodB u=true from fun u hu=>(shapedB_true.1 (HTS.out u hu)).2.2);rw[hbb,hix]at CI;rw[hbb,hix];obtain⟨ts,hts⟩:∃ts,telT t=ts:=⟨_,rfl⟩;obtain⟨u,hu⟩:∃u,benT t=u:=⟨_,rfl⟩;rw[hts,hu]at CW;rw[hts]at hnn HTS2⊢;rw[hu]at CI;obtain⟨r,hr⟩:∃r:RcT,(if bb=true then(⟨true,ts,ix⟩:RcT)else zeroRc)=r:=⟨_,rfl⟩;rw[hr];have HR0:=hid (fun(q:bb=false)=>(show zeroRc=r from by rw[←hr,q];rfl));have HR1:=hid (fun(q:bb=true)=>(show(⟨true,ts,ix⟩:RcT)=r from by rw[←hr,q];rfl));clear hr;have HNN:=hid hnn;have hn0:(n:Int)≤24:=by omega
  have hbs0:(bs:Int)≤900:=by omega
  have wr1:IntKind.i64.wrap ((bs:Int)+(n:Int))=(bs:Int)+(n:Int):=IntWalk.i64_in _ (by omega);have HCA:Hid (((bs+n:Nat):Int)=(bs:Int)+(n:Int)):=hid (by omega);rw[HCA.out]at CI;unfold IndIsP termV at CI;rw[hnn]at CW;unfold termV;clear hn hS ht hp htf hpn hres hbb hix hts hu hnn HAS HTS ha hi0 hai hb;go_enter func167,ntmps167;go_wp2_with fail;refine CW.out.mono ?_;rintro e w1 ⟨B,c,D,d,rfl,hl1,ht1,hb1⟩;have HB1:=hid (HBX.out.trans (hb1.mono HBX.out.size));have HX1:=hid hb1.size;have HK:=hid (HK2.out.below hb1 HK2.out.lt);have HT1:=hid ht1;have HL1:=hid hl1;obtain⟨Y,hY⟩:∃Y,w1.alloc (.cells #[.int .i64 u.k,.int .i64 u.n,.slice D u.l.length d] 25)=Y:=⟨_,rfl⟩;have HBY0:=hid (show Below w1.heap.size w1 Y from by rw[←hY];exact(Below.refl _ _).alloc (Nat.le_refl _) _);have HBY:=hid (HB1.out.trans (HBY0.out.mono HB1.out.size));have HKY:=hid (HK.out.below HBY0.out HK.out.lt);have HK3:=hid (show Bk Y w1.heap.size 25 #[.int .i64 u.k,.int .i64 u.n,.slice D u.l.length d]from by rw[←hY];exact Bk.new w1 _ _);have y0:Y.cell? ⟨w1.heap.size,0,none⟩=some (.int .i64 u.k):=HK3.out.cell 0;have y1:Y.cell? ⟨w1.heap.size,1,none⟩=some (.int .i64 u.n):=HK3.out.cell 1;have y2:Y.cell? ⟨w1.heap.size,2,none⟩=some (.slice D u.l.length d):=HK3.out.cell 2;have HTY:=hid (show IsTerm Y (w.heap.size+2) w1.heap.size u D d from TermIn.imp (fun b o hb=>HBY0.out.cell (p:=⟨b,o,none⟩) hb.2) (fun b hb=>⟨by have:=hb.1;have:=HSX.out;omega,hb.2⟩) HT1.out);have hxs:=HBX.out.size;have HLY:=hid (fun V (hV:Below Y.heap.size Y V)=>(show IsTerms V (w.heap.size+2) w1.heap.size ts B c from by
    have q:=HL1.out.imp (w':=V) (P':=fun b=>w.heap.size+2≤b∧b<w1.heap.size) (fun b o hb=>(hV.cell (p:=⟨b,o,none⟩) (by have:=hb.2;have:=HBY0.out.size;show b<_;omega)).trans (HBY0.out.cell (p:=⟨b,o,none⟩) hb.2)) (fun b hb=>⟨by have:=hb.1;have:=HSX.out;omega,hb.2⟩);exact q))
  clear x0 x1 x2 ht1 hl1 hb1 hX;go_wp2_with fail;refine(CI.out D d (w.heap.size+2) w1.heap.size _ HBY.out HTY.out HBY0.out.size).mono ?_;rintro e w2 ⟨B2,n2,c2,rfl,hz2,hb2⟩;have HB2:=hid (HBY.out.trans (hb2.mono HBY.out.size));have HKZ:=hid (HKY.out.below hb2 HKY.out.lt);have HZ2:=hid hz2;have HL2:=hid (HLY.out w2 hb2);have hsz2:=hb2.size;have hsy:=HBY0.out.size;have hfz:∀q,w2.frozen? ⟨w.heap.size+1,q,none⟩=false:=fun q=>HKZ.out.cold q;have z0:w2.cell? ⟨w.heap.size+1,0,none⟩=some (.bool false):=HKZ.out.cell 0;have z1:w2.cell? ⟨w.heap.size+1,1,none⟩=some (.slice none 0 0):=HKZ.out.cell 1;have z2:w2.cell? ⟨w.heap.size+1,2,none⟩=some (.slice none 0 0):=HKZ.out.cell 2;clear y0 y1 y2 hb2 hY hz2;cases bb with
  | false=>
    obtain rfl:=HR0.out rfl;have HS0:=hid (((HKZ.out.at_ 0 (.bool false)).at_ 1 (.slice none 0 0)).at_ 2 (.slice none 0 0));go_wp2_with fail;have s0:=HS0.out.cell 0;have s1:=HS0.out.cell 1;have s2:=HS0.out.cell 2;refine bodyPost_ret (v:= .agg #[.bool false,.slice none 0 0,.slice none 0 0]) (by simp[results,results167,go_sem,s0,s1,s2]) rfl ?_;exact⟨.slice none 0 0,.slice none 0 0,rfl,RecV.zero _ _ _,((HB2.out.setCell (by simp) _).setCell (by simp) _).setCell (by simp) _⟩
  | true=>
    obtain rfl:=HR1.out rfl;obtain⟨e2,hin⟩:=HZ2.out rfl;subst e2;have HIN:=hid (show TermIn w2 (fun b=>(w.heap.size+2≤b∧b<w2.heap.size)∧b≠w.heap.size+1) (.node 0 0 ix) B2 c2 from hin.imp (fun _ _ _=>rfl) (fun b hb=>by have h1:=HBX.out.size;have h2:=HSX.out;have h3:=HX1.out;have h4:=HBY0.out.size;rcases hb.1 with h|h<;>(have:=hb.2;omega)));have HS0:=hid (((HKZ.out.at_ 0 (.bool true)).at_ 1 (.slice B n c)).at_ 2 (.slice B2 ix.length c2));clear hin;go_wp2_with fail;have s0:=HS0.out.cell 0;have s1:=HS0.out.cell 1;have s2:=HS0.out.cell 2;refine bodyPost_ret (v:= .agg #[.bool true,.slice B n c,.slice B2 ix.length c2]) (by simp[results,results167,go_sem,s0,s1,s2]) rfl ?_;refine⟨.slice B n c,.slice B2 ix.length c2,rfl,⟨B,c,B2,c2,by rw[←HNN.out],rfl, ?_, ?_⟩,((HB2.out.setCell (by simp) _).setCell (by simp) _).setCell (by simp) _⟩
    · exact(HL2.out.three (fun b hb=>by have:=hb.1;omega) _ _ _).imp (fun _ _ _=>rfl) (fun b hb=>⟨by have:=hb.1;omega,by rw[size_three];have:=hb.2;omega⟩)
    · exact(HIN.out.three (fun b hb=>hb.2) _ _ _).imp (fun _ _ _=>rfl) (fun b hb=>⟨by have:=hb.1.1;omega,by rw[size_three];exact hb.1.2⟩)
theorem infoRcc:(prog.info? 204).map (fun i=>(i.zero,i.size,i.bytes))=some (some (.agg #[.bool false,.slice none 0 0,.slice none 0 0]),3,56):=by kernel_rfl
def cellsR (p:RcT×Value×Value):List Value:=[.bool p.1.is,p.2.1,p.2.2]
def flatR (ps:List (RcT×Value×Value)):List Value:=ps.flatMap cellsR
theorem flatR_snoc (ps:List (RcT×Value×Value)) (p:RcT×Value×Value):flatR (ps++[p])=flatR ps++cellsR p:=by
 unfold flatR;rw[List.flatMap_append];simp
theorem flatR_at:∀(ps:List (RcT×Value×Value)) (j r:Nat) (h:j<ps.length),r<3→(flatR ps)[j*3+r]? =(cellsR ps[j])[r]?
 | p::ps,0,r,_,hr=>by
  show(cellsR p++flatR ps)[0*3+r]? =_
  rw[List.getElem?_append_left (by simp[cellsR];omega)];simp
 | p::ps,j+1,r,h,hr=>by
  show(cellsR p++flatR ps)[(j+1)*3+r]? =_
  rw[List.getElem?_append_right (by simp[cellsR];omega)];have e:(j+1)*3+r - (cellsR p).length=j*3+r:=by simp[cellsR];omega
  rw[e,flatR_at ps j r (by simpa using h) hr];rfl
def RecIn (w:World) (P:Nat→Prop) (r:RcT) (v1 v2:Value):Prop:=
 ∃F C G D,v1= .slice F r.ar.length C∧v2= .slice G r.ix.length D∧TermIn w P (.node 0 0 r.ar) F C∧TermIn w P (.node 0 0 r.ix) G D
theorem RecIn.imp {w w':World} {P P':Nat→Prop} (hw:∀b o,P b→w'.cell? ⟨b,o,none⟩=w.cell? ⟨b,o,none⟩) (hP:∀b,P b→P' b) {r:RcT} {v1 v2:Value} (h:RecIn w P r v1 v2):RecIn w' P' r v1 v2:=by
 obtain⟨F,C,G,D,e1,e2,h1,h2⟩:=h;exact⟨F,C,G,D,e1,e2,h1.imp hw hP,h2.imp hw hP⟩
structure RcRow (w:World) (base:Nat) (v:Value) (ps:List (RcT×Value×Value)) (P:Nat→Prop):Prop where
 row:w.ownsRow base 204 3 v ps.length (flatR ps)
 far:∀b,P b→b<w.heap.size∧v.ownBlock≠some b
 node:∀p∈ps,RecIn w P p.1 p.2.1 p.2.2
theorem RcRow.nil (w:World) (base:Nat):RcRow w base (.slice none 0 0) [] (fun _=>False):=⟨World.ownsRow_nil _ _ _ _,fun _ h=>h.elim,fun _ h=>by cases h⟩
theorem RcRow.below {w w':World} {base:Nat} {v:Value} {ps:List (RcT×Value×Value)} {P:Nat→Prop} (h:RcRow w base v ps P) (hb:Below w.heap.size w w'):RcRow w' base v ps P:=
 ⟨h.row.kept (row:=none) ⟨hb.os,hb.tape,hb.output,hb.size,fun k hk _=>hb.block k hk⟩ (by cases hv:v.ownBlock<;>simp),fun b hb'=>⟨Nat.lt_of_lt_of_le (h.far b hb').1 hb.size,(h.far b hb').2⟩,
  fun p hp=>(h.node p hp).imp (fun b o hb'=>hb.cell (p:=⟨b,o,none⟩) (h.far b hb').1) (fun _ h=>h)⟩
theorem RcRow.setCell {w:World} {base:Nat} {v:Value} {ps:List (RcT×Value×Value)} {P:Nat→Prop} (h:RcRow w base v ps P) {a:Addr} (ha:a.block<base) (hP:∀b,P b→b≠a.block) (u:Value):RcRow (w.setCell a u) base v ps P:=
 ⟨ownsRow_setCell_below h.row ha u,fun b hb=>⟨by simp[World.setCell];exact(h.far b hb).1,(h.far b hb).2⟩,fun p hp=>(h.node p hp).imp (fun b o hb=>World.cell?_of_block (a:=⟨b,o,none⟩) (Below.heap_setCell w a u b (hP b hb))) (fun _ h=>h)⟩
theorem RcRow.push {w w':World} {base:Nat} {v v':Value} {ps:List (RcT×Value×Value)} {P Pn:Nat→Prop} {p:RcT×Value×Value} (h:RcRow w base v ps P)
    (hn:RecIn w Pn p.1 p.2.1 p.2.2) (hf:∀b,Pn b→b<w.heap.size∧v.ownBlock≠some b)
    (hr:w'.ownsRow base 204 3 v' (ps.length+1) (flatR ps++cellsR p)) (hg:w.grownBy w' v.ownBlock) (ho:v'.ownBlock=v.ownBlock∨v'.ownBlock=some w.heap.size):RcRow w' base v' (ps++[p]) (fun b=>P b∨Pn b):=by
  have hb:∀b,P b∨Pn b→b<w.heap.size∧v.ownBlock≠some b:=fun b hb=>hb.elim (h.far b) (hf b);have hcell:∀b o,P b∨Pn b→w'.cell? ⟨b,o,none⟩=w.cell? ⟨b,o,none⟩:=fun b o hb'=>World.cell?_of_block (a:=⟨b,o,none⟩) (hg.block b (hb b hb').1 (fun e=>(hb b hb').2 e.symm));refine⟨by rw[flatR_snoc,List.length_append];exact hr,fun b hb'=>⟨Nat.lt_of_lt_of_le (hb b hb').1 hg.size,fun e=> ?_⟩,fun q hq=> ?_⟩
  · rcases ho with ho|ho
    · exact(hb b hb').2 (ho.symm.trans e)
    · have:=(hb b hb').1;rw[ho]at e;injection e with e;omega
  · rcases List.mem_append.1 hq with hq|hq
    · exact(h.node q hq).imp (fun b o hb'=>hcell b o (.inl hb')) (fun b hb'=> .inl hb')
    · obtain rfl:q=p:=by simpa using hq
      exact hn.imp (fun b o hb'=>hcell b o (.inr hb')) (fun b hb'=> .inr hb')
theorem RcRow.recs {w:World} {base lo:Nat} {A:Option Addr} {cap:Nat} {ps:List (RcT×Value×Value)} {P:Nat→Prop} (h:RcRow w base (.slice A ps.length cap) ps P) (hlo:lo≤base) (hP:∀b,P b→lo≤b):
  RecsAt w lo w.heap.size A (ps.map (·.1))∧ps.length≤cap∧cap≤maxLen:=by
 have hcap:ps.length≤cap∧cap≤maxLen:=by
  rcases h.row.2 with ⟨h1,h2⟩|⟨g,c,cur,h1,_,_,h2,h3,_⟩
  ·injection h1 with _ h3 h4;subst h4;omega
  ·injection h1 with _ _ h4;subst h4;exact⟨h2,h3⟩
 refine⟨fun i hi=> ?_,hcap⟩;have hi':i<ps.length:=by simpa using hi
 rcases h.row.2 with ⟨h1,h2⟩|⟨g,c,cur,h1,hbg,hg,_⟩
 ·omega
 ·injection h1 with h1 _ _;subst h1;have hat:=fun r (hr:r<3)=>(h.row.cellAt (i*3+r) (by omega)).trans (flatR_at ps i r hi' hr);have e:(ps.map (·.1))[i]=ps[i].1:=List.getElem_map _;have a0:=hat 0 (by omega);rw[Nat.add_zero]at a0;have hgl:g<w.heap.size:=by
   rcases Nat.lt_or_ge g w.heap.size with hlt|hge
   ·exact hlt
   ·rw[Array.getElem?_eq_none hge]at hg;cases hg
  refine⟨g,0,ps[i].2.1,ps[i].2.2,rfl,by omega,hgl,by rw[e,Nat.zero_add,a0];rfl,by rw[Nat.zero_add,hat 1 (by omega)];rfl,by rw[Nat.zero_add,hat 2 (by omega)];rfl, ?_⟩;rw[e];exact(h.node _ (List.getElem_mem hi')).imp (fun _ _ _=>rfl) (fun b hb=>⟨hP b hb,(h.far b hb).1⟩)
theorem wp_lastR {P:Program} {c:Code} {Q:Exit→Act→World→Prop} {a:Act} {w:World} (h:∀K:Act→World→Prop,(∀a' w',Q .normal a' w'→K a' w')→Code.wp P c (Exit.then K Q) a w):Code.wp P c Q a w:=
 wp_mono (h (fun a w=>Q .normal a w) (fun _ _ q=>q)) (by intro e a w q;cases e<;>exact q)
end Go.Proofs.YtchllgkgjompgaaGreatDoor
