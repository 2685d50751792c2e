import Derived.Test.YtchllgkgjompgaaGreatDoorS5
import Derived.Test.YtchllgkgjompgaaGreatDoorA3
import Derived.Test.YtchllgkgjompgaaGreatDoorR1
import Derived.LoopTactic
import Derived.Test.YtchllgkgjompgaaGreatDoorS9
import Derived.Test.YtchllgkgjompgaaGreatDoorR3
namespace Go.Proofs.YtchllgkgjompgaaGreatDoor
set_option maxHeartbeats 8000000
set_option maxRecDepth 100000
open Go.RowKit Go.Maps Go.WideMaps
set_option linter.unusedVariables false
open Lib(hid)
open Go.Proofs.Tryz
theorem lrS7{n:Nat}:n≤n:=Nat.le_refl n
theorem trS7{a b c:World}(x:Hid (Below a.heap.size a b))(y:Below b.heap.size b c):Below a.heap.size a c:=x.out.trans (y.mono x.out.size)
theorem names_len (l:List ET):(namesE l).length=l.length:=List.length_map _
theorem names_at {l:List ET} {i:Nat} (h:i<l.length):(namesE l).getD i ByteArray.empty=l[i].s:=by
 rw[List.getD,List.getElem?_eq_getElem (by rw[names_len];exact h),Option.getD_some];exact List.getElem_map _
theorem snamed_any (l:List ET) (A:Option Addr) (cap lo hi:Nat) (w:World) (hl:l.length≤600) (hn:EntsAt w lo hi A l) (hhi:hi≤w.heap.size):
    Calls prog 163 #[.slice A l.length cap] w fun e w'=>e= .returned (.map (some w.heap.size))∧IsSet w' w.heap.size l.length (namesE l)∧Below w.heap.size w w':=by
  have hmm:=run_makeMap_hint;have hll:(l.length:Int)≤600:=by omega
  unfold IsSet;rw[names_len];have HN:=hid hn;clear hn hl;go_enter func163,ntmps163;go_wp2_with fail;go_loopw [10] (fun i wr=>∃k:Nat,k≤l.length∧i= .int .i64 k∧wr.ownsMap prog 9 (unitElem (H:=Unit)) w.heap.size k (Sn (namesE l) k)∧Below w.heap.size w wr)
    (fun i _=>l.length - (intOf i).toNat)
  case atStart=>exact⟨0,Nat.zero_le _,rfl,by rw[Sn_zero];exact World.ownsMap_made _ _ _ _,(Below.refl _ _).alloc lrS7 _⟩
  case round=>
    obtain⟨k,hk,rfl,hown,hB⟩:=hrel;by_cases hlk:k<l.length
    · obtain⟨b,o,p,rfl,_,hb2,hx,hent⟩:=HN.out k hlk;have hz:=hB.size;have hbw:b<wr.heap.size:=by omega
      have x1:=(hx.kept (B:=w.heap.size) hB (by omega)).c1;have hsz:=hent.hs;have HN2:=hid (Sn_succ (namesE l) k (by rw[names_len];exact hlk));unfold keyAt at HN2;rw[names_at hlk]at HN2;obtain⟨x,hxx⟩:∃x,l[k].s=x:=⟨_,rfl⟩;rw[hxx]at x1 hsz HN2;have hi0':(k:Int)<(l.length:Int):=by omega
      clear hxx hx hent;have hkey:=key_ok hsz
      go_wp2_with (first
        | (at_mapUpdate;refine wpList_mapUpdate_own _ rfl _ _ _ 198 rfl 9 75 law9 Tryz.underlying198 (unitElem (H:=Unit)) w.heap.size k _ rfl hown (by unfold maxLen;omega) _ _ _ rfl rfl hkey _ [] unitElem_mk ?_;intro w1 hown1 hgrow1)
        | go_in)
      go_roundw
      case rel=>exact⟨k+1,by omega,by go_num,HN2.out.symm ▸ hown1,hB.grown hgrow1 hB.size (fun j hj=>by cases hj;exact Nat.le_refl _)⟩
      case measure=>simp[intOf];omega
    · obtain rfl:k=l.length:=by omega
      go_wp2_with fail;go_ret;exact⟨rfl,hown,hB⟩
noncomputable def entP (l:List ET) (i:Nat) (x:ET):Bool:=nmB x.s && (closedE x.t i && (idleB x &&
  (if x.k=1 then famB l i x else if x.k=2 then conB l i x else if x.k=4 then fldB l i x else if x.k=3 then closedE x.b i else false)))
noncomputable def entQ (l:List ET) (i:Nat):Bool:=match l[i]? with|some x=>entP l i x|none=>false
noncomputable def formedB (l:List ET):Bool:=decide (l.length≤256) && (distB (namesE l) && allB (entQ l) l.length)
theorem entQ_at {l:List ET} {i:Nat} (h:i<l.length):entQ l i=entP l i l[i]:=by unfold entQ;rw[List.getElem?_eq_getElem h]
theorem famB_facts {l:List ET} {i:Nat} {x:ET} (h:famB l i x=true):0≤x.a∧0≤x.i∧x.a+x.i≤24:=by
 unfold famB at h;simp only[Bool.and_eq_true,decide_eq_true_eq]at h;exact⟨h.1,h.2.1,h.2.2.1⟩
theorem famOk_of {l:List ET} {n:Nat} (h:allB (entQ l) n=true):FamOk l n:=by
 intro j hj hjn hk;have h1:=allB_true.1 h j hjn;rw[entQ_at hj]at h1;unfold entP at h1;rw[if_pos hk]at h1;simp only[Bool.and_eq_true]at h1;exact famB_facts h1.2.2.2
theorem sformed_any (l:List ET) (A:Option Addr) (cap i:Nat) (hi:i<l.length) (lo hh:Nat) (w:World) (hl:l.length≤600) (hlc:l.length≤cap) (hn:EntsAt w lo hh A l) (hhh:hh≤w.heap.size) (hS:ShapesM w) (hfo:FamOk l i):
  Calls prog 164 #[.slice A l.length cap,.int .i64 i] w fun e w'=>e= .returned (.bool (entP l i l[i]))∧Below w.heap.size w w':=by
 obtain⟨b,o,p,hA,hb1,hb2,hx,hent⟩:=hn i hi;have CF:=hid (fun V (hV:Below w.heap.size w V)=>fam_any l A cap i hi lo hh V hl (hn.kept hV hhh) (by have:=hV.size;omega) (hS.kept hV));have CC:=hid (fun(hs:shapedB l[i].t=true) (V:World) (hV:Below w.heap.size w V)=>con_any l A cap i hi lo hh V hl hlc (hn.kept hV hhh) (by have:=hV.size;omega) (hS.kept hV) hfo hs);have CD:=hid (fun(hs:shapedB l[i].t=true) (V:World) (hV:Below w.heap.size w V)=>fld_any l A cap i hi lo hh V hl hlc (hn.kept hV hhh) (by have:=hV.size;omega) (hS.kept hV) hfo hs);obtain⟨z,hz⟩:∃z,entP l i l[i]=z:=⟨_,rfl⟩;rw[hz];unfold entP at hz;obtain⟨rf,hrf⟩:∃r,famB l i l[i]=r:=⟨_,rfl⟩;obtain⟨rc,hrc⟩:∃r,conB l i l[i]=r:=⟨_,rfl⟩;obtain⟨rd,hrd⟩:∃r,fldB l i l[i]=r:=⟨_,rfl⟩;rw[hrf,hrc,hrd]at hz;rw[hrf]at CF;rw[hrc]at CC;rw[hrd]at CD;clear hrf hrc hrd;obtain⟨x,hxx⟩:∃x,l[i]=x:=⟨_,rfl⟩;rw[hxx]at hx hent hz CC CD;obtain⟨x0,x1,x2,x3,x4,x5,x6,x7,x8,x9,x10,x11,x12,x13,x14⟩:=hx;subst hA;have hbw:b<w.heap.size:=by omega
 have hi0':(i:Int)<(l.length:Int):=by omega
 have hi1:(i:Int)<600:=by omega
 have HZ:=hid hz;have HB1:=hid (show Below w.heap.size w (w.alloc (.cells (entC x p) 43))from(Below.refl _ _).alloc lrS7 _);have KB:=hid (fun V (hV:Below (w.alloc (.cells (entC x p) 43)).heap.size (w.alloc (.cells (entC x p) 43)) V)=>(show BoxE V w.heap.size x p from((Bk.new w 43 (entC x p)).below hV (by simp)).boxE));have hs9:=hent.hs;have CN:=hid (fun(V:World)=>nameRight_any x.s V (by unfold maxLen at hs9;omega));have CL:=hid (fun V (hV:Below w.heap.size w V)=>closed_any x.t (i:Int) lo hh p.T p.tc V (hent.ht.kept hV hhh) (by have:=hV.size;omega) (hS.kept hV));have CB:=hid (fun V (hV:Below w.heap.size w V)=>closed_any x.b (i:Int) lo hh p.B p.bc V (hent.hb.kept hV hhh) (by have:=hV.size;omega) (hS.kept hV));have CI:=hid (fun(V:World)=>idle_any x p V);have HCS:=hid (fun(q:closedE x.t (i:Int)=true)=>closed_shaped q);obtain⟨bn,hbn⟩:∃r,nmB x.s=r:=⟨_,rfl⟩;obtain⟨bl,hbl⟩:∃r,closedE x.t (i:Int)=r:=⟨_,rfl⟩;obtain⟨bb,hbb⟩:∃r,closedE x.b (i:Int)=r:=⟨_,rfl⟩;obtain⟨bi,hbi⟩:∃r,idleB x=r:=⟨_,rfl⟩;rw[hbn]at CN;rw[hbl]at CL HCS;rw[hbb]at CB;rw[hbi]at CI;have HZ1:Hid ((bn && (bl && (bi && (if x.k=1 then rf else if x.k=2 then rc else if x.k=4 then rd else if x.k=3 then bb else false))))=z):=hid (by
  have:=HZ.out;rw[hbn,hbl,hbb,hbi]at this;exact this)
 unfold entC at HB1 KB;unfold entV at CI;unfold termV at CL CB;clear hz hxx hent hn hS hl hb1 hb2 hs9 hbn hbl hbb hbi hfo hlc HZ;go_enter func164,ntmps164;go_wp2_with fail;refine(CN.out _).mono ?_;rintro e w1 ⟨rfl,hb1⟩;have HB2:=hid (HB1.out.trans (hb1.mono (by simp)));have HK2:=hid hb1;have hs1:w.heap.size<w1.heap.size:=by have:=hb1.size;simp at this;omega
 obtain⟨z0,z1,z2,z3,z4,z5,z6,z7,z8,z9,z10,z11,z12,z13,z14⟩:=KB.out _ hb1;clear hb1 x0 x1 x2 x3 x4 x5 x6 x7 x8 x9 x10 x11 x12 x13 x14;cases bn with
 | false=>
  obtain rfl:z=false:=by rw[←HZ1.out];rfl
  go_wp2_with fail;go_ret;exact⟨rfl,HB2.out⟩
 | true=>
 go_wp2_with fail;refine(CL.out _ HB2.out).mono ?_;rintro e w2 ⟨rfl,hb2⟩;have HB3:=hid (trS7 HB2 hb2);have HK3:=hid (trS7 HK2 hb2);have hs2:w.heap.size<w2.heap.size:=by have:=hb2.size;omega
 clear hb2 z0 z1 z2 z3 z4 z5 z6 z7 z8 z9 z10 z11 z12 z13 z14 hs1;obtain⟨z0,z1,z2,z3,z4,z5,z6,z7,z8,z9,z10,z11,z12,z13,z14⟩:=KB.out _ HK3.out;cases bl with
 | false=>
  obtain rfl:z=false:=by rw[←HZ1.out];rfl
  go_wp2_with fail;go_ret;exact⟨rfl,HB3.out⟩
 | true=>
 have hsh:=HCS.out rfl;have CC2:=hid (CC.out hsh);have CD2:=hid (CD.out hsh);clear hsh HCS CC CD;go_wp2_with fail;refine(CI.out _).mono ?_;rintro e w3 ⟨rfl,hb3⟩;have HB4:=hid (trS7 HB3 hb3);have HK4:=hid (trS7 HK3 hb3);have hs3:w.heap.size<w3.heap.size:=by have:=hb3.size;omega
 clear hb3 z0 z1 z2 z3 z4 z5 z6 z7 z8 z9 z10 z11 z12 z13 z14 hs2;obtain⟨z0,z1,z2,z3,z4,z5,z6,z7,z8,z9,z10,z11,z12,z13,z14⟩:=KB.out _ HK4.out;cases bi with
 | false=>
  obtain rfl:z=false:=by rw[←HZ1.out];rfl
  go_wp2_with fail;go_ret;exact⟨rfl,HB4.out⟩
 | true=>
 have HZ2:Hid ((if x.k=1 then rf else if x.k=2 then rc else if x.k=4 then rd else if x.k=3 then bb else false)=z):=HZ1;by_cases k1:x.k=1
 ·have t1:(x.k==1)=true:=by simpa using k1
  obtain rfl:rf=z:=by rw[←HZ2.out,if_pos k1]
  clear k1 CL CB CN CI CC2 CD2;go_wp2_with fail;refine(CF.out _ HB4.out).mono ?_;rintro e w4 ⟨rfl,hb4⟩;go_wp2_with fail;go_ret;exact⟨rfl,trS7 HB4 hb4⟩
 have t1:(x.k==1)=false:=by simpa using k1
 by_cases k2:x.k=2
 ·have t2:(x.k==2)=true:=by simpa using k2
  obtain rfl:rc=z:=by rw[←HZ2.out,if_neg k1,if_pos k2]
  clear k1 k2 CL CB CN CI CF CD2;go_wp2_with fail;refine(CC2.out _ HB4.out).mono ?_;rintro e w4 ⟨rfl,hb4⟩;go_wp2_with fail;go_ret;exact⟨rfl,trS7 HB4 hb4⟩
 have t2:(x.k==2)=false:=by simpa using k2
 by_cases k4:x.k=4
 ·have t4:(x.k==4)=true:=by simpa using k4
  obtain rfl:rd=z:=by rw[←HZ2.out,if_neg k1,if_neg k2,if_pos k4]
  clear k1 k2 k4 CL CB CN CI CF CC2;go_wp2_with fail;refine(CD2.out _ HB4.out).mono ?_;rintro e w4 ⟨rfl,hb4⟩;go_wp2_with fail;go_ret;exact⟨rfl,trS7 HB4 hb4⟩
 have t4:(x.k==4)=false:=by simpa using k4
 by_cases k3:x.k=3
 ·have t3:(x.k==3)=true:=by simpa using k3
  obtain rfl:bb=z:=by rw[←HZ2.out,if_neg k1,if_neg k2,if_neg k4,if_pos k3]
  clear k1 k2 k4 k3 CL CN CI CF CC2 CD2;go_wp2_with fail;refine(CB.out _ HB4.out).mono ?_;rintro e w4 ⟨rfl,hb4⟩;go_wp2_with fail;go_ret;exact⟨rfl,trS7 HB4 hb4⟩
 have t3:(x.k==3)=false:=by simpa using k3
 obtain rfl:z=false:=by rw[←HZ2.out,if_neg k1,if_neg k2,if_neg k4,if_neg k3]
 clear k1 k2 k4 k3 CL CN CI CF CC2 CD2 CB;go_wp2_with fail;go_ret;exact⟨rfl,HB4.out⟩
theorem wpList_len_want {H:Type} {P:Program} {ops:Array Oper} {Q:Exit→Act→World→Prop} {a:Act} {w:World} {rest:List Oper} {o:Oper} (hw:Region.wanted o (yielded ops a.tmps)=true) (m:Operand) (t:TypeId) (hop:o.op=Op.call {callee:=Callee.builtin Builtin.len,args:= #[m],argTypes:= #[t]})
    (k e:TypeId) (ht:P.underlying t=some (.map k e)) (R:Value→Option (DataW H×List MemPlace)) (b n:Nat) (D:DataW H) (hm:a.eval m= .map (some b)) (hown:w.ownsMap P k R b n D)
    (hK:wpList P ops Q rest (a.put o.dst (.int .i64 (Maps.size D))) w):
    wpList P ops Q (o::rest) a w:=by
  refine BigFrame.wpList_want hw fun K' hK'=> ?_;unfold Oper.wp;simp[execOp,hop,resolve,invoke,builtin,hm,hown.len ht o.type,Result.andThen];exact hK' _ _ hK
theorem SFormed_any (l:List ET) (A:Option Addr) (cap lo hh:Nat) (w:World) (hl:l.length≤600) (hlc:l.length≤cap) (hn:EntsAt w lo hh A l) (hhh:hh≤w.heap.size) (hS:ShapesM w):
  Calls prog 135 #[.slice A l.length cap] w fun e w'=>e= .returned (.bool (formedB l))∧Below w.heap.size w w':=by
 have HN:=hid hn;have HSS:=hid hS;have CNM:=hid (snamed_any l A cap lo hh w hl hn hhh);have hd:=(size_Sn (namesE l) (namesE l).length lrS7).trans (dist_iff (namesE l)).symm;rw[names_len]at hd;have CFO:=hid (fun(i:Nat) (hi:i<l.length) (hfo:FamOk l i) (V:World) (hV:Below w.heap.size w V)=>sformed_any l A cap i hi lo hh V hl hlc (hn.kept hV hhh) (by have:=hV.size;omega) (hS.kept hV) hfo);obtain⟨z,hz⟩:∃z,formedB l=z:=⟨_,rfl⟩;rw[hz];unfold formedB at hz;have HZ:=hid hz;have hll:(l.length:Int)≤600:=by omega
 clear hz hn hS hl hlc;by_cases h256:l.length≤256
 case neg=>
  have t0:decide ((256:Int)<(l.length:Int))=true:=decide_eq_true (by omega);have t0':decide ((l.length:Int)>256)=true:=decide_eq_true (by omega);have t0'':decide (256<l.length)=true:=decide_eq_true (by omega);obtain rfl:z=false:=by rw[←HZ.out,decide_eq_false h256];rfl
  clear h256 hd;go_enter func135,ntmps135;go_wp2_with fail;go_ret;exact⟨rfl,Below.refl _ _⟩
 have t0:decide ((256:Int)<(l.length:Int))=false:=decide_eq_false (by omega);have t0':decide ((l.length:Int)>256)=false:=decide_eq_false (by omega);have t0'':decide (256<l.length)=false:=decide_eq_false (by omega);have HZ1:Hid ((distB (namesE l) && allB (entQ l) l.length)=z):=hid (by have:=HZ.out;rw[decide_eq_true h256,Bool.true_and]at this;exact this);unfold IsSet at CNM;rw[names_len]at CNM;obtain⟨D,hD⟩:∃D,Sn (namesE l) l.length=D:=⟨_,rfl⟩;rw[hD]at CNM hd;clear h256 hD HZ;obtain⟨rd,hrd⟩:∃r,distB (namesE l)=r:=⟨_,rfl⟩;rw[hrd]at HZ1;cases rd with
 | false=>
  obtain⟨m,hm⟩:∃m,Maps.size D=m:=⟨_,rfl⟩;have ne:((m:Int) !=(l.length:Int))=true:=by
   rw[bne_iff_ne];intro e;have:m=l.length:=by omega
   rw[hd.1 (hm.trans this)]at hrd;cases hrd
  obtain rfl:z=false:=by rw[←HZ1.out];rfl
  have HE:=hid hm;clear hd hrd hm;go_enter func135,ntmps135;go_wp2_with fail;refine CNM.out.mono ?_;rintro e w1 ⟨rfl,hset,hb⟩;go_wp2_with (at_len;(refine wpList_len_want rfl _ 198 rfl 9 75 Tryz.underlying198 _ w.heap.size l.length _ rfl hset ?_;rw[HE.out]))
  go_ret;exact⟨rfl,hb⟩
 | true=>
 have HE:=hid (hd.2 hrd);have ne:((l.length:Int) !=(l.length:Int))=false:=by simp
 have HZ2:Hid (allB (entQ l) l.length=z):=HZ1;clear hd hrd;go_enter func135,ntmps135;go_wp2_with fail;refine CNM.out.mono ?_;rintro e w1 ⟨rfl,hset,hb⟩;go_wp2_with (at_len;(refine wpList_len_want rfl _ 198 rfl 9 75 Tryz.underlying198 _ w.heap.size l.length _ rfl hset ?_;rw[HE.out]))
 have HB1:=hid hb;clear hset hb;try go_wp2_with fail
 go_loopw [17] (fun iv wr=>∃i:Nat,i≤l.length∧iv= .int .i64 i∧Below w.heap.size w wr∧Hid (allB (entQ l) i=true)) (fun iv _=>l.length - (intOf iv).toNat)
 case atStart=>exact⟨0,Nat.zero_le _,rfl,HB1.out,hid rfl⟩
 case round=>
  obtain⟨i,hi1,rfl,hB,HQ⟩:=hrel;by_cases hil:i<l.length
  ·have CF:=hid (CFO.out i hil (famOk_of HQ.out) wr hB);have hno:Hid (entP l i l[i]=false→z=false):=hid (fun h=>by rw[←HZ2.out];exact allB_noM hil (by rw[entQ_at hil];exact h));have hyes:Hid (entP l i l[i]=true→allB (entQ l) (i+1)=true):=hid (fun h=>by rw[allB,HQ.out,entQ_at hil,h];rfl);obtain⟨r,hr⟩:∃r,entP l i l[i]=r:=⟨_,rfl⟩;rw[hr]at CF hno hyes;have hi0':(i:Int)<(l.length:Int):=by omega
   have HBB:=hid hB;clear hr;go_wp2_with fail;refine CF.out.mono ?_;rintro e w2 ⟨rfl,hb2⟩;have HB2:=hid (trS7 HBB hb2);clear hb2;cases r with
   | false=>
    obtain rfl:z=false:=hno.out rfl;clear hno hyes;go_wp2_with fail;go_ret;exact⟨rfl,HB2.out⟩
   | true=>
    have HY:=hid (hyes.out rfl);clear hno hyes;go_wp2_with fail;go_roundw
    case rel=>exact⟨i+1,by omega,by go_num,HB2.out,hid HY.out⟩
    case measure=>simp[intOf];omega
  ·obtain rfl:i=l.length:=by omega
   obtain rfl:z=true:=by rw[←HZ2.out];exact HQ.out
   go_wp2_with fail;go_ret;exact⟨rfl,hB⟩
theorem beh_place {l:List ET} {i first:Int} {places:List Int} {k:Int} (h:behB l i first places k=true) {q:Nat} (hq:q<places.length):
  places[q]=first+(q:Int)∧∃m:Nat,places[q]=(m:Int)∧∃hm:m<l.length,l[m].k=k∧l[m].f=i∧l[m].p=(q:Int):=by
 unfold behB at h;have h1:=allB_true.1 h q hq;unfold behQ at h1;rw[List.getElem?_eq_getElem hq]at h1;simp only[placeOk,Bool.and_eq_true,decide_eq_true_eq]at h1;obtain⟨e1,e2,e3⟩:=h1;obtain⟨m,e4,hm,hk⟩:=isB_true e2;rw[e4,Int.toNat_natCast,List.getElem?_eq_getElem hm]at e3;simp only[Bool.and_eq_true,decide_eq_true_eq]at e3;exact⟨e1,m,e4,hm,hk,e3.1,e3.2⟩
theorem idle_split {x:ET}:idleB x=true→(x.k=1→x.f=0∧x.p=0∧zeroT x.b=true)∧(x.k=2∨x.k=4→x.i=0∧x.v=0∧x.c.length=0∧x.d.length=0∧zeroT x.b=true)∧
    (x.k=3→x.f=0∧x.p=0∧x.a=0∧x.i=0∧x.v=0∧x.c.length=0∧x.d.length=0):=by
  intro h;unfold idleB at h;refine⟨fun hk=> ?_,fun hk=> ?_,fun hk=> ?_⟩
  · rw[if_pos hk]at h;simpa only[Bool.and_eq_true,decide_eq_true_eq]using h
  · rw[if_neg (by omega),if_pos hk]at h;simpa only[Bool.and_eq_true,decide_eq_true_eq]using h
  · rw[if_neg (by omega),if_neg (by omega),if_pos hk]at h;simpa only[Bool.and_eq_true,decide_eq_true_eq]using h
theorem fam_con {l:List ET} {j:Nat} {y:ET} (h:famB l j y=true):behB l j (j+1) y.c 2=true∧(y.d.length=0∨(y.i=0∧behB l j (j+2) y.d 4=true)):=by
 unfold famB at h;simp only[Bool.and_eq_true,Bool.or_eq_true,decide_eq_true_eq]at h;obtain⟨_,_,_,_,_,hb,hd⟩:=h;refine⟨hb, ?_⟩;rcases hd with hd|hd
 ·exact .inl hd
 ·unfold recB at hd;simp only[Bool.and_eq_true,decide_eq_true_eq]at hd;exact .inr ⟨hd.1,hd.2.2.2⟩
structure RcT where
 is:Bool
 ar:List TM
 ix:List TM
structure CoT where
 args:List TM
 inds:List TM
 recs:List RcT
def zeroRc:RcT:=⟨false,[],[]⟩
def zeroCo:CoT:=⟨[],[],[]⟩
instance:Inhabited RcT:=⟨zeroRc⟩
instance:Inhabited CoT:=⟨zeroCo⟩
def recT (d:Int) (ps mo:Nat) (t:TM) (bs:Nat):RcT:=
 if decide (pisN t≤24) && appB (benT t) d ps mo (bs+pisN t)then⟨true,telT t,(argsT (benT t)).drop ps⟩else zeroRc
def recsT (d:Int) (ps mo:Nat) (l:List TM) (n:Nat):List RcT:=(List.range n).map fun i=>recT d ps mo (l.getD i (.node 0 0 [])) (ps+i)
def partsT (x:ET) (mo:Nat):CoT:=
 ⟨(telT x.t).drop x.a.toNat,(argsT (benT x.t)).drop x.a.toNat,recsT x.f x.a.toNat mo ((telT x.t).drop x.a.toNat) ((telT x.t).drop x.a.toNat).length⟩
def moOf (l:List ET) (x:ET):Nat:=match famAt l x with|some y=>y.i.toNat|none=>0
def partsAt (l:List ET) (n:Nat):CoT:=match l[n]? with|some x=>partsT x (moOf l x)|none=>zeroCo
def everyAt (l:List ET) (n:Nat):CoT:=if isB l (n:Int) 2 then partsAt l n else zeroCo
def everyT (l:List ET):List CoT:=(List.range l.length).map (everyAt l)
theorem everyT_len (l:List ET):(everyT l).length=l.length:=by unfold everyT;simp
theorem everyT_at {l:List ET} {n:Nat} (h:n<(everyT l).length):(everyT l)[n]=everyAt l n:=by simp[everyT]
theorem recsT_len (d:Int) (ps mo:Nat) (l:List TM) (n:Nat):(recsT d ps mo l n).length=n:=by unfold recsT;simp
theorem recsT_succ (d:Int) (ps mo:Nat) (l:List TM) (n:Nat):recsT d ps mo l (n+1)=recsT d ps mo l n++[recT d ps mo (l.getD n (.node 0 0 [])) (ps+n)]:=by
 unfold recsT;rw[List.range_succ,List.map_append];rfl
theorem recsT_at {d:Int} {ps mo:Nat} {l:List TM} {n i:Nat} (h:i<(recsT d ps mo l n).length) (hi:i<l.length):(recsT d ps mo l n)[i]=recT d ps mo l[i] (ps+i):=by
 simp[recsT,List.getElem?_eq_getElem hi]
structure ConF (l:List ET) (m d:Nat) (hm:m<l.length) (hd:d<l.length):Prop where
 f:l[m].f=(d:Int)
 lt:d<m
 kd:l[d].k=1
 a:l[m].a=l[d].a
 a0:0≤l[d].a
 i0:0≤l[d].i
 ai:l[d].a+l[d].i≤24
 n24:pisN l[m].t≤24
 an:l[m].a≤(pisN l[m].t:Int)
 app:appB (benT l[m].t) l[m].f l[m].a.toNat l[d].i.toNat (pisN l[m].t)=true
 cl:closedE l[m].t m=true
 sh:shapedB l[m].t=true
theorem formed_ent {l:List ET} (h:formedB l=true) {i:Nat} (hi:i<l.length):entP l i l[i]=true:=by
 unfold formedB at h;simp only[Bool.and_eq_true]at h;have:=allB_true.1 h.2.2 i hi
 rwa [entQ_at hi]at this
theorem formed_len {l:List ET} (h:formedB l=true):l.length≤256:=by
 unfold formedB at h;simp only[Bool.and_eq_true,decide_eq_true_eq]at h;exact h.1
theorem formed_cl {l:List ET} (h:formedB l=true) {i:Nat} (hi:i<l.length):closedE l[i].t i=true:=by
 have:=formed_ent h hi;unfold entP at this;simp only[Bool.and_eq_true]at this;exact this.2.1
theorem formed_fam {l:List ET} (h:formedB l=true) {i:Nat} (hi:i<l.length) (hk:l[i].k=1):famB l i l[i]=true:=by
 have:=formed_ent h hi;unfold entP at this;rw[if_pos hk]at this;simp only[Bool.and_eq_true]at this;exact this.2.2.2
theorem con_facts {l:List ET} (h:formedB l=true) {m:Nat} (hm:m<l.length) (hk:l[m].k=2):∃d,∃hd:d<l.length,ConF l m d hm hd:=by
 have h1:=formed_ent h hm;unfold entP at h1;rw[if_neg (by omega),if_pos hk]at h1;simp only[Bool.and_eq_true]at h1;obtain⟨_,h2,_,h3⟩:=h1;unfold conB at h3;rw[Bool.and_eq_true]at h3;obtain⟨h4,h5⟩:=h3;obtain⟨d,e,hlt,hd,hkd⟩:=isB_take h4;rw[famAt_nat e hd]at h5;simp only[Bool.and_eq_true,decide_eq_true_eq]at h5;obtain⟨_,q1,q2,q3,q4⟩:=h5;obtain⟨f1,f2,f3⟩:=famB_facts (formed_fam h hd hkd);exact⟨d,hd,⟨e,hlt,hkd,q1,f1,f2,f3,q2,q3,q4,h2,closed_shaped h2⟩⟩
structure FamF (l:List ET) (d:Nat) (hd:d<l.length):Prop where
 a0:0≤l[d].a
 i0:0≤l[d].i
 ai:l[d].a+l[d].i≤24
 c16:l[d].c.length≤16
 sp:splitX l[d].t (l[d].a+l[d].i)=(telT l[d].t,.node 2 l[d].v [],0)
 nt:(telT l[d].t).length=(l[d].a+l[d].i).toNat
 cl:closedE l[d].t d=true
 sh:shapedB l[d].t=true
 cons:∀q (h:q<l[d].c.length),∃hm:d+1+q<l.length,l[d].c[q]=((d+1+q:Nat):Int)∧l[d+1+q].k=2∧l[d+1+q].f=(d:Int)∧l[d+1+q].p=(q:Int)
theorem take_whole:∀{m:Nat} {t u:TM} {r:List TM},tgoodB t=true→takeT m t=some (r,u)→u.k≠3→r=telT t∧u=benT t∧pisN t=m:=by
 intro m;induction m with
 | zero=>
  intro t u r hg h hk;rw[takeT]at h;injection h with h;injection h with h1 h2;subst h1 h2;obtain⟨q1,q2⟩:=tel_not hk;exact⟨q1.symm,q2.symm,pisN_not hk⟩
 | succ m ih=>
  intro t u r hg h hk;by_cases h3:t.k=3
  ·obtain⟨n,a,b,rfl,ha,hb⟩:=pi_parts hg h3;rw[takeT_pi]at h;cases e:takeT m b with
   | none=>rw[e]at h;cases h
   | some q=>
    rw[e]at h;obtain⟨q1,q2⟩:=q;injection h with h;injection h with h1 h2;simp only at h1 h2;subst h1 h2;obtain⟨e1,e2,e3⟩:=ih hb e hk;obtain⟨p1,p2⟩:=tel_pi (n:=n) (a:=a) hb;rw[p1,p2,e1,←e2,pisN_pi,e3];exact⟨rfl,rfl,rfl⟩
  ·rw[takeT_not h3]at h;cases h
theorem sort_leaf {t:TM} (hs:shapedB t=true) (hk:t.k=2):t= .node 2 t.n []:=by
 obtain⟨k,n,l⟩:=t;obtain rfl:k=2:=hk;have h:=(ttop_facts (by
  have hg:=(shapedB_true.1 hs).2.2;rw[tgoodB_node,Bool.and_eq_true]at hg;exact hg.1)).2.2.1
 have:l=[]:=List.length_eq_zero_iff.1 (h.trans rfl);subst this;rfl
theorem fam_facts {l:List ET} (h:formedB l=true) {d:Nat} (hd:d<l.length) (hk:l[d].k=1):FamF l d hd:=by
 have h1:=formed_fam h hd hk;obtain⟨f1,f2,f3⟩:=famB_facts h1;have hb:=(fam_con h1).1;have hcl:=formed_cl h hd;have hsh:=closed_shaped hcl;unfold famB at h1;simp only[Bool.and_eq_true,decide_eq_true_eq]at h1;obtain⟨_,_,_,h16,hso,_⟩:=h1;unfold sortB at hso;simp only[Bool.and_eq_true,decide_eq_true_eq]at hso;obtain⟨s0,s1,s2⟩:=hso;have hss:=split_shaped s0;have hle:=sort_leaf hss s1;rw[s2]at hle;have hsp:splitX l[d].t (l[d].a+l[d].i)=((splitX l[d].t (l[d].a+l[d].i)).1,(splitX l[d].t (l[d].a+l[d].i)).2.1,(splitX l[d].t (l[d].a+l[d].i)).2.2):=rfl;rw[s0,hle]at hsp;have hw:(splitX l[d].t (l[d].a+l[d].i)).1=telT l[d].t∧pisN l[d].t=(l[d].a+l[d].i).toNat:=by
  have hsp2:=hsp;unfold splitX at hsp2;rw[hsh,decide_eq_true (show(0:Int)≤l[d].a+l[d].i by omega),if_pos (show(true && true)=true from rfl),if_neg (by omega)]at hsp2;cases e:takeT (l[d].a+l[d].i).toNat l[d].t with
  | none=>rw[e]at hsp2;simp at hsp2
  | some p=>
   rw[e]at hsp2;simp only[Prod.mk.injEq]at hsp2;obtain⟨p1,p2⟩:=p;obtain⟨w1,w2,w3⟩:=take_whole (shapedB_true.1 hsh).2.2 e (by rw[show p2=_ from hsp2.2.1];exact fun h=>by cases h);refine⟨?_,w3⟩;unfold splitX;rw[hsh,decide_eq_true (show(0:Int)≤l[d].a+l[d].i by omega),if_pos (show(true && true)=true from rfl),if_neg (by omega),e];exact w1
 rw[hw.1]at hsp;refine⟨f1,f2,f3,h16,hsp,by rw[(tel_facts hsh).1,hw.2],hcl,hsh,fun q hq=> ?_⟩;obtain⟨e1,m,e2,hm,k2,k3,k4⟩:=beh_place hb hq;obtain rfl:m=d+1+q:=by omega
 exact⟨hm,e2,k2,k3,k4⟩
def RecV (w:World) (lo hi:Nat) (r:RcT) (v1 v2:Value):Prop:=
 ∃F C G D,v1= .slice F r.ar.length C∧v2= .slice G r.ix.length D∧IsTerms w lo hi r.ar F C∧IsTerms w lo hi r.ix G D
theorem RecV.kept {w w':World} {lo hi B:Nat} {r:RcT} {v1 v2:Value} (h:RecV w lo hi r v1 v2) (hb:Below B w w') (hB:hi≤B):RecV w' lo hi r v1 v2:=by
 obtain⟨F,C,G,D,e1,e2,h1,h2⟩:=h;exact⟨F,C,G,D,e1,e2,h1.kept hb hB,h2.kept hb hB⟩
theorem RecV.wide {w:World} {lo hi lo' hi':Nat} {r:RcT} {v1 v2:Value} (h:RecV w lo hi r v1 v2) (h1:lo'≤lo) (h2:hi≤hi'):RecV w lo' hi' r v1 v2:=by
 obtain⟨F,C,G,D,e1,e2,q1,q2⟩:=h;exact⟨F,C,G,D,e1,e2,q1.wide h1 h2,q2.wide h1 h2⟩
def RecAt (w:World) (lo hi:Nat) (A:Option Addr) (rs:List RcT) (i:Nat) (h:i<rs.length):Prop:=
 ∃b o v1 v2,A=some ⟨b,o,none⟩∧lo≤b∧b<hi∧w.cell? ⟨b,o+i*3,none⟩=some (.bool rs[i].is)∧w.cell? ⟨b,o+i*3+1,none⟩=some v1∧w.cell? ⟨b,o+i*3+2,none⟩=some v2∧RecV w lo hi rs[i] v1 v2
def RecsAt (w:World) (lo hi:Nat) (A:Option Addr) (rs:List RcT):Prop:=∀i (h:i<rs.length),RecAt w lo hi A rs i h
theorem RecsAt.kept {w w':World} {lo hi B:Nat} {A:Option Addr} {rs:List RcT} (h:RecsAt w lo hi A rs) (hb:Below B w w') (hB:hi≤B):RecsAt w' lo hi A rs:=fun i hi'=>by
 obtain⟨b,o,v1,v2,hA,h1,h2,c0,c1,c2,hv⟩:=h i hi';have e:∀q,w'.cell? ⟨b,q,none⟩=w.cell? ⟨b,q,none⟩:=fun q=>hb.cell (p:=⟨b,q,none⟩) (by show b<B;omega);exact⟨b,o,v1,v2,hA,h1,h2,by rw[e,c0],by rw[e,c1],by rw[e,c2],hv.kept hb hB⟩
theorem RecsAt.wide {w:World} {lo hi lo' hi':Nat} {A:Option Addr} {rs:List RcT} (h:RecsAt w lo hi A rs) (h1:lo'≤lo) (h2:hi≤hi'):RecsAt w lo' hi' A rs:=fun i hi0=>by
 obtain⟨b,o,v1,v2,hA,q1,q2,c0,c1,c2,hv⟩:=h i hi0;exact⟨b,o,v1,v2,hA,by omega,by omega,c0,c1,c2,hv.wide h1 h2⟩
def ConV (w:World) (lo hi:Nat) (c:CoT) (v0 v1 v2:Value):Prop:=
 ∃F C G D H E,v0= .slice F c.args.length C∧v1= .slice G c.inds.length D∧v2= .slice H c.recs.length E∧IsTerms w lo hi c.args F C∧IsTerms w lo hi c.inds G D∧RecsAt w lo hi H c.recs∧c.recs.length≤E∧E≤maxLen
theorem ConV.kept {w w':World} {lo hi B:Nat} {c:CoT} {v0 v1 v2:Value} (h:ConV w lo hi c v0 v1 v2) (hb:Below B w w') (hB:hi≤B):ConV w' lo hi c v0 v1 v2:=by
 obtain⟨F,C,G,D,H,E,e0,e1,e2,h0,h1,h2,h3,h4⟩:=h;exact⟨F,C,G,D,H,E,e0,e1,e2,h0.kept hb hB,h1.kept hb hB,h2.kept hb hB,h3,h4⟩
theorem ConV.wide {w:World} {lo hi lo' hi':Nat} {c:CoT} {v0 v1 v2:Value} (h:ConV w lo hi c v0 v1 v2) (q1:lo'≤lo) (q2:hi≤hi'):ConV w lo' hi' c v0 v1 v2:=by
 obtain⟨F,C,G,D,H,E,e0,e1,e2,h0,h1,h2,h3,h4⟩:=h;exact⟨F,C,G,D,H,E,e0,e1,e2,h0.wide q1 q2,h1.wide q1 q2,h2.wide q1 q2,h3,h4⟩
theorem nil_terms (w:World) (lo hi:Nat):IsTerms w lo hi [] none 0:=TermIn.mk 0 0 [] none 0 (fun _=>none) (fun _=>0) lrS7 (by decide) (fun h=>by simp at h) (fun i h=>by simp at h)
theorem no_recs (w:World) (lo hi:Nat):RecsAt w lo hi none []:=fun i h=>absurd h (Nat.not_lt_zero i)
theorem ConV.zero (w:World) (lo hi:Nat):ConV w lo hi zeroCo (.slice none 0 0) (.slice none 0 0) (.slice none 0 0):=
 ⟨none,0,none,0,none,0,rfl,rfl,rfl,nil_terms w lo hi,nil_terms w lo hi,no_recs w lo hi,Nat.le_refl _,Nat.zero_le _⟩
theorem RecV.zero (w:World) (lo hi:Nat):RecV w lo hi zeroRc (.slice none 0 0) (.slice none 0 0):=⟨none,0,none,0,rfl,rfl,nil_terms w lo hi,nil_terms w lo hi⟩
def ConAt (w:World) (lo hi:Nat) (A:Option Addr) (cs:List CoT) (i:Nat) (h:i<cs.length):Prop:=
 ∃b o v0 v1 v2,A=some ⟨b,o,none⟩∧lo≤b∧b<hi∧w.cell? ⟨b,o+i*3,none⟩=some v0∧w.cell? ⟨b,o+i*3+1,none⟩=some v1∧w.cell? ⟨b,o+i*3+2,none⟩=some v2∧ConV w lo hi cs[i] v0 v1 v2
def ConsAt (w:World) (lo hi:Nat) (A:Option Addr) (cs:List CoT):Prop:=∀i (h:i<cs.length),ConAt w lo hi A cs i h
theorem ConsAt.kept {w w':World} {lo hi B:Nat} {A:Option Addr} {cs:List CoT} (h:ConsAt w lo hi A cs) (hb:Below B w w') (hB:hi≤B):ConsAt w' lo hi A cs:=fun i hi'=>by
 obtain⟨b,o,v0,v1,v2,hA,h1,h2,c0,c1,c2,hv⟩:=h i hi';have e:∀q,w'.cell? ⟨b,q,none⟩=w.cell? ⟨b,q,none⟩:=fun q=>hb.cell (p:=⟨b,q,none⟩) (by show b<B;omega);exact⟨b,o,v0,v1,v2,hA,h1,h2,by rw[e,c0],by rw[e,c1],by rw[e,c2],hv.kept hb hB⟩
theorem ConsAt.wide {w:World} {lo hi lo' hi':Nat} {A:Option Addr} {cs:List CoT} (h:ConsAt w lo hi A cs) (h1:lo'≤lo) (h2:hi≤hi'):ConsAt w lo' hi' A cs:=fun i hi0=>by
 obtain⟨b,o,v0,v1,v2,hA,q1,q2,c0,c1,c2,hv⟩:=h i hi0;exact⟨b,o,v0,v1,v2,hA,by omega,by omega,c0,c1,c2,hv.wide h1 h2⟩
structure RulesAt (w:World) (hi:Nat) (g:Nat) (l:List ET) (A B:Option Addr) (cap bap:Nat):Prop where
 gl:g<hi
 hl:hi≤w.heap.size
 c0:w.cell? ⟨g,0,none⟩=some (.slice A l.length cap)
 c1:w.cell? ⟨g,1,none⟩=some (.slice B l.length bap)
 ents:EntsAt w 0 hi A l
 cons:ConsAt w 0 hi B (everyT l)
 fm:formedB l=true
 lc:l.length≤cap
theorem RulesAt.kept {w w':World} {hi g:Nat} {l:List ET} {A B:Option Addr} {cap bap:Nat} (h:RulesAt w hi g l A B cap bap) (hb:Below hi w w'):RulesAt w' hi g l A B cap bap:=
 ⟨h.gl,by have:=h.hl;have:=hb.size;omega,(hb.cell (p:=⟨g,0,none⟩) h.gl).trans h.c0,(hb.cell (p:=⟨g,1,none⟩) h.gl).trans h.c1,h.ents.kept hb lrS7,h.cons.kept hb lrS7,h.fm,h.lc⟩
theorem RulesAt.below {w w':World} {hi g:Nat} {l:List ET} {A B:Option Addr} {cap bap:Nat} (h:RulesAt w hi g l A B cap bap) (hb:Below w.heap.size w w'):RulesAt w' hi g l A B cap bap:=h.kept (hb.mono h.hl)
theorem RulesAt.con {w:World} {hi g:Nat} {l:List ET} {A B:Option Addr} {cap bap:Nat} (h:RulesAt w hi g l A B cap bap) {m:Nat} (hm:m<l.length) (hk:l[m].k=2):
  ∃b o v0 v1 v2,B=some ⟨b,o,none⟩∧b<hi∧w.cell? ⟨b,o+m*3,none⟩=some v0∧w.cell? ⟨b,o+m*3+1,none⟩=some v1∧w.cell? ⟨b,o+m*3+2,none⟩=some v2∧ConV w 0 hi (partsAt l m) v0 v1 v2:=by
 obtain⟨b,o,v0,v1,v2,hA,_,h2,c0,c1,c2,hv⟩:=h.cons m (by rw[everyT_len];exact hm);rw[everyT_at]at hv;unfold everyAt at hv;rw[isB_nat hm,decide_eq_true hk,if_pos rfl]at hv;exact⟨b,o,v0,v1,v2,hA,h2,c0,c1,c2,hv⟩
theorem good_kind {t:TM} (h:tgoodB t=true):t.k≠0:=by
 obtain⟨k,n,l⟩:=t;intro e;obtain rfl:k=0:=e;rw[tgoodB_node,Bool.and_eq_true]at h;have:=h.1;revert this
 unfold ttopB;simp
theorem good_subs {t:TM} (h:tgoodB t=true):∀u∈t.l,tgoodB u=true:=by
 obtain⟨k,n,l⟩:=t;exact(good_parts h).2.2.2.2.2.2
theorem TermIn.avoid {w:World} {P:Nat→Prop} {g:Nat} (hx:∀o k,w.cell? ⟨g,o,none⟩=some (.int .i64 k)→k=0∨∀q,w.cell? ⟨g,o+1,none⟩≠some (.int .i64 q)):∀{t:TM} {A:Option Addr} {cap:Nat},
  TermIn w P t A cap→(∀u∈t.l,tgoodB u=true)→TermIn w (fun b=>P b∧b≠g) t A cap:=by
 intro t A cap h;induction h with
 | mk k n l A cap F C hl hm hc _ ih=>
  intro hg;refine .mk k n l A cap F C hl hm (fun h0=> ?_) (fun i h=>ih i h (good_subs (hg _ (show l[i]∈l from List.getElem_mem h))));obtain⟨b,o,hA,hb,hcs⟩:=hc h0;refine⟨b,o,hA,⟨hb,fun e=> ?_⟩,hcs⟩;subst e;obtain⟨x0,x1,_⟩:=hcs 0 h0;rcases hx _ _ x0 with h|h
  ·exact good_kind (hg _ (show l[0]∈l from List.getElem_mem h0)) h
  ·exact h _ x1
theorem Below.al {w V:World} (h:Below w.heap.size w V) (o:Obj):Below w.heap.size w (V.alloc o):=h.alloc h.size o
theorem Below.st {w V:World} {g q:Nat} (h:Below w.heap.size w V) (hg:w.heap.size≤g) (u:Value):Below w.heap.size w (V.setCell ⟨g,q,none⟩ u):=h.setCell hg u
theorem Below.dr {w V:World} (h:Below w.heap.size w V):Below w.heap.size w V.drew:=h.drew
theorem Bk.al {w:World} {g:Nat} {e:TypeId} {cs:Array Value} (h:Bk w g e cs) (o:Obj):Bk (w.alloc o) g e cs:=h.alloc o
end Go.Proofs.YtchllgkgjompgaaGreatDoor
