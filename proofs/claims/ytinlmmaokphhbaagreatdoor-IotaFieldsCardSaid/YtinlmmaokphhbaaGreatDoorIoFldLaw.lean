import Derived.Test.YtinlmmaokphhbaaGreatDoorI8
import Derived.Test.YtinlmmaokphhbaaGreatDoorS8
namespace Go.Proofs.YtinlmmaokphhbaaGreatDoor.iotaFields
open Go.ChangeShapes Go.WideShapes Go.ChangeAt Go.RowKit
open Go.ChangeMaps (open_string shut_string)
set_option linter.unusedVariables false
open Go.Proofs.Tryz
open Go renaming trodAll_cons_mk→Qa
theorem walk (l:List ET)(A_l:Option Addr)(c_l:Nat)(p:Int)(t:List TM)(A_t:Option Addr)(c_t:Nat)(w:World)(zl:l.length≤c_l∧c_l≤maxLen)(hl:Zr w 0 w.heap.size A_l l)(hp:(Lit.int .i64 p).wf=true)(ht:Ze w 0 w.heap.size t A_t c_t)(zt:t.all Zd2=true)(hS:Zi w):
  Calls prog 3 #[.slice A_l l.length c_l,.int .i64 p,.slice A_t t.length c_t] w fun e w'=>e= .returned (.bool true)∧Below w.heap.size w w':=
 Zug l A_l c_l p t A_t c_t w zl.1 zl.2 hl ht hS
set_option maxRecDepth 100000 in
theorem lifted (os:Os)(started:os.Started)(H:Type)(enc:TypeId×Value→H):
    ReturnsInHanded {} Tryz.checked os 3 .any (fun w args=>(Rows.iotaFieldsSpec.pre enc prog Tryz.f3 Rows.iotaFieldsRow.domain false w args∧laidMetH prog Rows.iotaFieldsRow.laid w)∧sizedMet enc prog Tryz.f3 (OpenSpec.ofChange Rows.iotaFieldsSpec) false w args)
      (Rows.iotaFieldsSpec.post enc prog Tryz.f3 false true false false):=by
  refine returnsInHanded_of_change_and (C:=Tryz.checked) (X:=fun w _=>laidMetH prog Rows.iotaFieldsRow.laid w) (fun _ _ _ hh h=>h.of_heap hh) own started (by kernel_rfl) func3
    (ChangeSpec.witness_shaped (enc:=enc) (C:=Tryz.checked) (os:=os) (X:=fun w _=>laidMetH prog Rows.iotaFieldsRow.laid w) false (World.laidAll prog os Rows.iotaFieldsRow.laid) #[.slice none 0 0,.int .i64 0,.slice none 0 0] 8 (World.laidAll_os _ _ _)
      (World.shaped_of_ZipB (by kernel_rfl) (by kernel_rfl)) (by kernel_rfl) (by kernel_rfl) (by kernel_rfl)
      (by rw[MakeChecks.laidMetH_plain _ _ _ (by kernel_rfl)];exact laidMet_laidAll _ (by kernel_rfl) (by kernel_rfl))) ?_
  intro W base args ds gs before hval0 hW _ hsz0 hL _;have hval:∀(j:Nat) t v,Tryz.f3.params[j]? =some t→args[j]? =some v→Value.okWide prog W .any base t v:=hval0;have hW':=hW;obtain⟨p,q,hA0,hV,rfl,hfz,hnd⟩:=hW;have hA:DataW.TrodAll enc prog W 0 (fun _=>true) true Tryz.f3.params.toList args.toList ds p:=hA0;rw[Tryz.params3]at hA hval;obtain⟨v0,vs0,d0,ds0,p0,q0,hargs,rfl,rfl,h0,r0⟩:=trodAll_cons hA;obtain⟨v1,vs1,d1,ds1,p1,q1,rfl,rfl,rfl,h1,r1⟩:=trodAll_cons r0;obtain⟨v2,vs2,d2,ds2,p2,q2,rfl,rfl,rfl,h2,r2⟩:=trodAll_cons r1;obtain⟨rfl,rfl,rfl⟩:=trodAll_nil r2;obtain rfl:args= #[v0,v1,v2]:=by cases args;simp_all
  obtain⟨rfl,rfl⟩:=trodVars_none hV;have k0:=h0;have lt0:∀x∈p0,x.block<W.heap.size:=by obtain⟨m,hm⟩:=k0;exact DataW.trod_lt m _ _ _ hm
  obtain⟨l0,a0,cap0,rfl,s0,w0⟩:=Zyo (hval 0 22 v0 rfl rfl) h0;obtain⟨a1,rfl,rfl,rfl,w1⟩:=open_int Tryz.underlying3 (hval 1 3 v1 rfl rfl) h1;have k2:=h2;have lt2:∀x∈p2,x.block<W.heap.size:=by obtain⟨m,hm⟩:=k2;exact DataW.trod_lt m _ _ _ hm
  have wt2:∀q∈d2.weights prog 23,q≤reachBytes:=fun q hq=>by
    have:=List.all_eq_true.1 hsz0 q (DataW.weights_mem_each (j:=2) (t:=23) (d:=d2) (by first|rfl|kernel_rfl) rfl q hq);simpa using this
  obtain⟨t2,a2,cap2,rfl,w2,_,s2⟩:=Z2z (hval 2 23 v2 rfl rfl) h2 wt2;clear hA0 hval0;have ht:=Zuu hL;refine(walk l0 a0 cap0 a1 t2 a2 cap2 W s0 w0 w1 w2 s2 ht).mono fun e W' ⟨he,bel⟩=> ?_;subst he;exact⟨_,rfl,_,_,_,[],_,[],hW',trodAll_mk1 (shut_bool Tryz.underlying4 _),(Qa (Below.trod Zvr (by kernel_rfl) (of_decide_eq_true (by kernel_rfl)) k0 bel lt0) (Qa (shut_int Tryz.underlying3 w1) (Qa (Below.trod Zvr (by kernel_rfl) (of_decide_eq_true (by kernel_rfl)) k2 bel lt2) trodAll_mk0))),rfl,bel.frame _,fun h=>by cases h⟩
theorem over:Rows.iotaFieldsRow.holds Tryz.pinned (OpenSpec.ofChange Rows.iotaFieldsSpec):=
  OpenClaim.holds_of_wide 3 Tryz.f3 rfl rfl rfl rfl rfl rfl rfl ⟨rfl,rfl,rfl,rfl,rfl⟩ rfl rfl rfl rfl rfl (by kernel_rfl) func3 (by kernel_rfl)
    (of_decide_eq_true (by kernel_rfl)) (by unfold Func.isWrapper;first|(rw[if_pos (by decide+kernel)];kernel_rfl)|(rw[if_neg (by decide+kernel)];exact⟨rfl,rfl⟩))
    (fun os started H enc _=>lifted os started H enc)
theorem card_holds:Rows.IotaFieldsCardSaid:=
  Claim7.holds_tied_plain_at .later [] [.data] true Rows.iotaFieldsCard.stood.harness false over (fun _ h=>by cases h) (by kernel_rfl) (fun _ h=>by cases h) iotaFields_row_tie rfl ⟨rfl,rfl⟩ (by kernel_rfl) rfl
    (fun f fn hf hfn=>by
      obtain rfl:f=3:=Option.some.inj ((show prog.funcNamed "scholium/scholiumlaw13.IotaFields" =some 3 by kernel_rfl).symm.trans hf)|>.symm
      obtain rfl:fn=Tryz.f3:=(Option.some.inj (func3.symm.trans hfn)).symm;exact⟨by kernel_rfl,fun j t ht=>by
        rw[Tryz.params3]at ht;have hm:t∈[22,3,23]:=by simpa using Array.mem_of_getElem? ht
        have hall:([22,3,23].all fun u=> !prog.wantsStandIn u)=true:=by kernel_rfl
        exact(show prog.wantsStandIn t=false by simpa using List.all_eq_true.1 hall t hm)⟩)
    (by kernel_rfl)
#print axioms card_holds
end Go.Proofs.YtinlmmaokphhbaaGreatDoor.iotaFields
