import Derived.Test.YtchllgkgjompgaaGreatDoorR3
import Derived.Test.YtchllgkgjompgaaGreatDoorS1
namespace Go.Proofs.YtchllgkgjompgaaGreatDoor
open Go.RowKit Go.ChangeShapes Go.WideShapes Go.ChangeAt Go.Deep
set_option linter.unusedVariables false
set_option maxRecDepth 100000
open Go.Proofs.Tryz
theorem shapesM_row {W:World} (h:laidMetH prog [("scholium/term.shapes",Rows.laid_scholium_term_shapes)] W):ShapesM W:=by
 rw[MakeChecks.laidMetH_plain _ _ _ (by kernel_rfl)]at h;exact shapesM_of h
theorem cellsEE:prog.cellsOf 43=15:=by kernel_rfl
theorem cellsEI:prog.cellsOf 41=1:=by kernel_rfl
theorem cellsES:prog.cellsOf 9=1:=by kernel_rfl
theorem list11 {α:Type} {l:List α} (h:l.length=11):∃a b c d e f g i j k m,l=[a,b,c,d,e,f,g,i,j,k,m]:=by
 match l,h with
 | [a,b,c,d,e,f,g,i,j,k,m],_=>exact⟨a,b,c,d,e,f,g,i,j,k,m,rfl⟩
theorem list15 {α:Type} {l:List α} (h:l.length=15):∃a b c d e f g i j k m n o p q,l=[a,b,c,d,e,f,g,i,j,k,m,n,o,p,q]:=by
 match l,h with
 | [a,b,c,d,e,f,g,i,j,k,m,n,o,p,q],_=>exact⟨a,b,c,d,e,f,g,i,j,k,m,n,o,p,q,rfl⟩
section
variable {H:Type} {enc:TypeId×Value→H} {W:World} {base:Nat} {sp:Nat→Bool} {hd:Bool}
theorem open_each {α:Type} [Inhabited α] {T e:TypeId} {m:Nat} {cellsX:α→List Value} {inX:α→Prop} (hT:prog.underlying T=some (.slice e)) (he:prog.cellsOf e=m) (hm:0<m) (hlx:∀p,(cellsX p).length=m)
    (hone:∀fuel cs (x:DataW H×List MemPlace),DataW.trod enc prog W base sp hd fuel e cs=some x→∃p,cs=cellsX p∧inX p) {fuel:Nat} {c:Value} {x:DataW H×List MemPlace} (h:DataW.trod enc prog W base sp hd fuel T [c]=some x):
    ∃(ps:List α) (A:Option Addr) (cap:Nat),c= .slice A ps.length cap∧ps.length≤cap∧cap≤maxLen∧
      ∀i (hi:i<ps.length),∃b o,A=some ⟨b,o,none⟩∧b<W.heap.size∧(∀r,r<m→W.cell? ⟨b,o+i*m+r,none⟩=(cellsX ps[i])[r]?)∧inX ps[i]:=by
  rcases DataW.trod_slice hT h with ⟨e4,_⟩|⟨ad,len,cap,elems,rest,k,rfl,e4,_,hb,hl,hmx,hel,hall,_⟩
  · obtain rfl:c= .slice none 0 0:=by simpa using e4
    exact⟨[],none,0,rfl,Nat.le_refl _,by decide,fun i hi=>by simp at hi⟩
  · obtain rfl:c= .slice (some ad) len cap:=by simpa using e4
    have one:∀i,i<len→∃p:α,(∀r,r<m→W.cell? (ad.add (i*m+r))=(cellsX p)[r]?)∧inX p:=by
      intro i hi;have hx:=hall i hi;rw[he]at hx;rw[List.getElem?_eq_getElem (by omega)]at hx;obtain⟨cs',hc,ht⟩:=Option.bind_eq_some_iff.1 hx;obtain⟨_,hcl,hat⟩:=World.cells?_some hc;obtain⟨p,rfl,hn⟩:=hone k cs' _ ht;refine⟨p,fun r hr=> ?_,hn⟩;have:=hat r hr
      rwa [Go.Deep.add_add]at this
    obtain⟨f,hf⟩:=choose_lt (α:=α) (p:=fun i p=>(∀r,r<m→W.cell? (ad.add (i*m+r))=(cellsX p)[r]?)∧inX p) one;have hget:∀i (h:i<(List.ofFn fun i:Fin len=>f i.val).length),(List.ofFn fun i:Fin len=>f i.val)[i]=f i:=fun i h=>by simp
    refine⟨List.ofFn fun i:Fin len=>f i.val,some ad,cap,by simp,by simp;omega,hmx,fun i hi=> ?_⟩;have hi':i<len:=by simpa using hi
    rw[hget i hi];obtain⟨b,o,spot⟩:=ad;have hc0:=(hf 0 (by omega)).1 0 hm;have hlt:0<(cellsX (f 0)).length:=by rw[hlx];exact hm
    rw[List.getElem?_eq_getElem hlt,Nat.zero_mul]at hc0;have hspot:spot=none:=by simpa [Addr.add]using World.cell?_spot hc0
    subst hspot;rw[Addr.add_lit]at hc0;refine⟨b,o,rfl,World.block_lt_of_cell? W _ hc0,fun r hr=> ?_,(hf i hi').2⟩;have:=(hf i hi').1 r hr;rw[Addr.add_lit]at this;rw[Nat.add_assoc];exact this
theorem open_introw {fuel:Nat} {c:Value} {x:DataW H×List MemPlace} (h:DataW.trod enc prog W base sp hd fuel 41 [c]=some x):
    ∃(l:List Int) (A:Option Addr) (cap:Nat),c= .slice A l.length cap∧l.length≤cap∧cap≤maxLen∧IntRow W 0 W.heap.size A l:=by
  obtain⟨ps,A,cap,rfl,h1,h2,h3⟩:=open_each (α:=Int) (cellsX:=fun p=>[.int .i64 p]) (inX:=fun _=>True) (m:=1) Tryz.underlying41 cells1 (by decide) (fun _=>rfl)
    (fun fuel cs x h=>by
      obtain⟨n,e,_,_⟩:=DataW.trod_int Tryz.underlying3 h;exact⟨n,e,trivial⟩) h
  refine⟨ps,A,cap,rfl,h1,h2,fun i hi=> ?_⟩;obtain⟨b,o,hA,hb,hc,_⟩:=h3 i hi;have c0:=hc 0 (by omega);rw[Nat.add_zero,Nat.mul_one]at c0;exact⟨b,o,hA,Nat.zero_le _,hb,c0⟩
theorem one_int {n:Nat} {c:Value} {y:DataW H×List MemPlace} (h:DataW.trod enc prog W base sp hd n 3 [c]=some y):∃a:Int,c= .int .i64 a∧(Lit.int .i64 a).wf=true:=by
 obtain⟨a,e,_,hw⟩:=DataW.trod_int Tryz.underlying3 h;exact⟨a,by simpa using e,hw⟩
theorem open_entry (fuel:Nat) (cs:List Value) (x:DataW H×List MemPlace) (h:DataW.trod enc prog W base sp hd fuel 43 cs=some x):
  ∃(y:ET) (p:EP),cs=(entC y p).toList∧IsEnt W 0 W.heap.size y p:=by
 obtain⟨xs,n,rfl,_,hlen,hxl,hf⟩:=DataW.trod_struct Tryz.underlying43 h;rw[cellsEE]at hlen;obtain⟨c0,c1,c2,c3,c4,c5,c6,c7,c8,c9,c10,c11,c12,c13,c14,rfl⟩:=list15 hlen;obtain⟨y0,y1,y2,y3,y4,y5,y6,y7,y8,y9,y10,rfl⟩:=list11 (show xs.length=11 from hxl);have h0:DataW.trod enc prog W base sp hd n 3 (List.take (prog.cellsOf 3) (List.drop 0 [c0,c1,c2,c3,c4,c5,c6,c7,c8,c9,c10,c11,c12,c13,c14]))=some y0:=hf 0 _ rfl;have h1:DataW.trod enc prog W base sp hd n 9 (List.take (prog.cellsOf 9) (List.drop 1 [c0,c1,c2,c3,c4,c5,c6,c7,c8,c9,c10,c11,c12,c13,c14]))=some y1:=hf 1 _ rfl;have h2:DataW.trod enc prog W base sp hd n 25 (List.take (prog.cellsOf 25) (List.drop 2 [c0,c1,c2,c3,c4,c5,c6,c7,c8,c9,c10,c11,c12,c13,c14]))=some y2:=hf 2 _ rfl;have h3:DataW.trod enc prog W base sp hd n 25 (List.take (prog.cellsOf 25) (List.drop 5 [c0,c1,c2,c3,c4,c5,c6,c7,c8,c9,c10,c11,c12,c13,c14]))=some y3:=hf 3 _ rfl;have h4:DataW.trod enc prog W base sp hd n 3 (List.take (prog.cellsOf 3) (List.drop 8 [c0,c1,c2,c3,c4,c5,c6,c7,c8,c9,c10,c11,c12,c13,c14]))=some y4:=hf 4 _ rfl;have h5:DataW.trod enc prog W base sp hd n 3 (List.take (prog.cellsOf 3) (List.drop 9 [c0,c1,c2,c3,c4,c5,c6,c7,c8,c9,c10,c11,c12,c13,c14]))=some y5:=hf 5 _ rfl;have h6:DataW.trod enc prog W base sp hd n 3 (List.take (prog.cellsOf 3) (List.drop 10 [c0,c1,c2,c3,c4,c5,c6,c7,c8,c9,c10,c11,c12,c13,c14]))=some y6:=hf 6 _ rfl;have h7:DataW.trod enc prog W base sp hd n 3 (List.take (prog.cellsOf 3) (List.drop 11 [c0,c1,c2,c3,c4,c5,c6,c7,c8,c9,c10,c11,c12,c13,c14]))=some y7:=hf 7 _ rfl;have h8:DataW.trod enc prog W base sp hd n 3 (List.take (prog.cellsOf 3) (List.drop 12 [c0,c1,c2,c3,c4,c5,c6,c7,c8,c9,c10,c11,c12,c13,c14]))=some y8:=hf 8 _ rfl;have h9:DataW.trod enc prog W base sp hd n 41 (List.take (prog.cellsOf 41) (List.drop 13 [c0,c1,c2,c3,c4,c5,c6,c7,c8,c9,c10,c11,c12,c13,c14]))=some y9:=hf 9 _ rfl;have h10:DataW.trod enc prog W base sp hd n 41 (List.take (prog.cellsOf 41) (List.drop 14 [c0,c1,c2,c3,c4,c5,c6,c7,c8,c9,c10,c11,c12,c13,c14]))=some y10:=hf 10 _ rfl;rw[cells1]at h0 h4 h5 h6 h7 h8;rw[cellsES]at h1;rw[cells25]at h2 h3;rw[cellsEI]at h9 h10;obtain⟨k,rfl,_⟩:=one_int h0;obtain⟨s,e1,_,hs⟩:=DataW.trod_string Tryz.underlying9 h1;obtain⟨t,T,tc,e2,ht⟩:=open_term _ _ _ h2;obtain⟨b,B,bc,e3,hb⟩:=open_term _ _ _ h3;obtain⟨f,rfl,_⟩:=one_int h4;obtain⟨p,rfl,_⟩:=one_int h5;obtain⟨a,rfl,hwa⟩:=one_int h6;obtain⟨i,rfl,_⟩:=one_int h7;obtain⟨v,rfl,_⟩:=one_int h8;obtain⟨lc,C,cc,e9,hc1,hc2,hc3⟩:=open_introw (show DataW.trod enc prog W base sp hd n 41 [c13]=some y9 from h9);obtain⟨ld,D,dc,e10,hd1,hd2,hd3⟩:=open_introw (show DataW.trod enc prog W base sp hd n 41 [c14]=some y10 from h10);obtain rfl:c1= .string s:=by simpa using e1
 subst e9;subst e10;have e4:[c2,c3,c4]=cellsM (t,T,tc):=e2;have e5:[c5,c6,c7]=cellsM (b,B,bc):=e3;injection e4 with q2 e4;injection e4 with q3 e4;injection e4 with q4 _;injection e5 with q5 e5;injection e5 with q6 e5;injection e5 with q7 _;subst q2 q3 q4 q5 q6 q7;refine⟨⟨k,s,t,b,f,p,a,i,v,lc,ld⟩,⟨T,tc,B,bc,C,cc,D,dc⟩,rfl,⟨hs,ht.imp (fun _ _ _=>rfl) (fun b hb=>⟨Nat.zero_le _,hb⟩),hb.imp (fun _ _ _=>rfl) (fun b hb=>⟨Nat.zero_le _,hb⟩),hc1,hc2,hc3,hd1,hd2,hd3, ?_⟩⟩;have hr: -9223372036854775808≤a∧a≤9223372036854775807:=by simpa [Lit.wf,IntKind.min,IntKind.max,IntKind.signed,IntKind.bits]using hwa
 exact hr.2
end
instance:Inhabited (ET×EP):=⟨(⟨0,⟨#[]⟩,.node 0 0 [],.node 0 0 [],0,0,0,0,0,[],[]⟩,⟨none,0,none,0,none,0,none,0⟩)⟩
theorem ents_open {H:Type} {enc:TypeId×Value→H} {W:World} {base:Nat} {sp:Nat→Bool} {hd:Bool} {r:Reach} {b0:Nat} {v:Value} {d:DataW H} {p:List MemPlace} (hv:Value.okWide prog W r b0 22 v) (h:DataW.Trod enc prog W base sp hd 22 v d p):
    ∃(l:List ET) (A:Option Addr) (cap:Nat),v= .slice A l.length cap∧(l.length≤cap∧cap≤maxLen)∧EntsAt W 0 W.heap.size A l:=by
  obtain⟨a,len,cap,rfl⟩:=okWide_slice Tryz.underlying22 hv;obtain⟨fuel,hf⟩:=h;have hf':DataW.trod enc prog W base sp hd fuel 22 [.slice a len cap]=some (d,p):=by simpa [Value.cells]using hf
  obtain⟨ps,A,c,hc,h1,h2,h3⟩:=open_each (α:=ET×EP) (cellsX:=fun p=>(entC p.1 p.2).toList) (inX:=fun p=>IsEnt W 0 W.heap.size p.1 p.2) (m:=15) Tryz.underlying22 cellsEE (by decide) (fun _=>rfl)
    (fun fuel cs x h=>by
      obtain⟨y,q,e,hn⟩:=open_entry fuel cs x h;exact⟨(y,q),e,hn⟩) hf'
  refine⟨ps.map (·.1),A,c,by rw[List.length_map];exact hc,by rw[List.length_map];exact⟨h1,h2⟩,fun i hi=> ?_⟩;have hi':i<ps.length:=by simpa using hi
  obtain⟨b,o,hA,hb,hcc,hn⟩:=h3 i hi';have e:(ps.map (·.1))[i]=ps[i].1:=List.getElem_map _;refine⟨b,o,ps[i].2,hA,Nat.zero_le _,hb, ?_,by rw[e];exact hn⟩;rw[e];have c0:=hcc 0 (by omega);rw[Nat.add_zero]at c0;exact⟨c0,hcc 1 (by omega),hcc 2 (by omega),hcc 3 (by omega),hcc 4 (by omega),hcc 5 (by omega),hcc 6 (by omega),hcc 7 (by omega),hcc 8 (by omega),hcc 9 (by omega),hcc 10 (by omega),hcc 11 (by omega),hcc 12 (by omega),hcc 13 (by omega),hcc 14 (by omega)⟩
end Go.Proofs.YtchllgkgjompgaaGreatDoor
