/-
  ConnMany: whatever is opened and reset, the law answers true, and the argument reads behind the call as it read before. Conditions: the row's own alone (each listed package-level variable reads as the program's text lays it: the card ties that).
-/
import Derived.Test.YtooaajnkiokpnaaGreatDoorQ01
import Derived.Test.YtooaajnkiokpnaaGreatDoorQ49
import Derived.Test.YtooaajnkiokpnaaGreatDoorQ14
import Derived.Test.YtooaajnkiokpnaaGreatDoorQ07
import Derived.Test.YtooaajnkiokpnaaGreatDoorQ04
namespace Go.Proofs.YtooaajnkiokpnaaGreatDoor
open Go.RowKit Go.WideShapes
set_option maxRecDepth 100000
section
open Go.ChangeShapes Go.WideShapes Go.ChangeAt Go.RowKit Go.Deep Go.Joins
theorem zfl{W:World}(h:laidMetH Tryz.prog Rows.connManyRow.laid W):GlobE W:=by
 have h' : laidMet Tryz.prog [] W ∧ handlesMet Tryz.prog [("errors.errorType", Rows.laid_errors_errorType)] W := h
 exact zie h'.2 (by simp)
theorem zaj(H:Type)(enc:TypeId × Value→H)(W:World)(base:Nat)(args:Array Value)(ds gs:List (DataW H))(before:List MemPlace)
  (hval:∀(j:Nat) t v,Tryz.f5.params[j]?=some t→args[j]?=some v→Value.okWide Tryz.prog W .any base t v)
  (hW:DataW.Whole enc Tryz.prog Tryz.f5.params.toList Rows.connManySpec.vars false W args.toList ds gs before) (hL:laidMetH Tryz.prog Rows.connManyRow.laid W) :
  Calls Tryz.prog 5 args W λe W'=>∃v,e=.returned v∧Rows.connManySpec.post enc Tryz.prog Tryz.f5 false true false false W args v W':=by
 have hW':=hW
 obtain⟨p,q,hA0,hV,rfl,hfz,hnd⟩:=hW
 have hA:DataW.TrodAll enc Tryz.prog W 0 (λ_=>true) true Tryz.f5.params.toList args.toList ds p:=hA0
 rw[Tryz.params5] at hA hval
 obtain⟨v0,vs0,d0,ds0,p0,q0,hargs,rfl,rfl,h0,r0⟩:=trodAll_cons hA
 obtain⟨rfl,rfl,rfl⟩:=trodAll_nil r0
 obtain rfl:args=#[v0]:=by cases args;simp_all
 obtain⟨A0,c0,L0,rfl,hc0,hm0,hr0⟩:=zl8 (hval 0 71 v0 rfl rfl) h0
 refine zsb zva rfl (by rw[Tryz.params5];intro t ht;change t∈[71] at ht;simp only[List.mem_cons,List.not_mem_nil,or_false] at ht;rcases ht with rfl<;>exact⟨by kernel_rfl,of_decide_eq_true (by kernel_rfl)⟩) (rb:=4) (by kernel_rfl) Tryz.underlying4 hW' rfl (zgo (zfl hL) hr0)
theorem zhm(os:Os):laidMetH Tryz.prog Rows.connManyRow.laid ((Vn os).forCall (λ_ _=>0) ⟨#[],#[.slice none 0 0],[]⟩).memory:=
 laidMetH_of_parts (laidMet_of_run' 8 (by kernel_rfl) (by kernel_rfl)) (by kernel_rfl)
theorem zdg(os:Os){H:Type}(enc:TypeId × Value→H):∃places,DataW.whole enc Tryz.prog ((Vn os).forCall (λ_ _=>0) ⟨#[],#[.slice none 0 0],[]⟩).memory Tryz.f5.params.toList Rows.connManySpec.vars false (#[.slice none 0 0]:Array Value).toList 8=some ([.nil],[],places):=
 ⟨[],by kernel_rfl⟩
theorem zc5(os:Os)(started:os.Started)(H:Type)(enc:TypeId × Value→H)(F:Stop.Interp) :
  ReturnsInHanded {} Tryz.checked os 5 .any ((OpenSpec.ofChange Rows.connManySpec).preRow enc Tryz.prog Tryz.f5 Rows.connManyRow.domain false Rows.connManyRow.laid) (((OpenSpec.ofChange Rows.connManySpec).at F).post enc Tryz.prog Tryz.f5 false true false false):=by
 obtain⟨places,hx⟩:=zdg os enc
 refine returnsInHanded_of_row (C:=Tryz.checked) (s:=OpenSpec.ofChange Rows.connManySpec) own started (by kernel_rfl) Tryz.func5
  (witness_row_at (enc:=enc) (C:=Tryz.checked) false (Vn os) #[.slice none 0 0] rfl (by kernel_rfl) (by kernel_rfl) (by kernel_rfl)
   (OpenSpec.preRow_of_cond 8 hx (by kernel_rfl) (λk hk=>by cases hk) (by kernel_rfl) (zhm os))) ?_
 intro W base args ds gs before hval hW _ _ _ hL _ _
 exact zaj H enc W base args ds gs before hval hW hL
theorem zfs:Rows.ConnManySaid:=
 OpenClaim.holds_of_cond 5 Tryz.f5 rfl rfl rfl rfl rfl rfl rfl ⟨rfl,rfl,rfl,rfl,rfl⟩ rfl rfl rfl rfl rfl (by kernel_rfl) Tryz.func5 (by kernel_rfl)
  (of_decide_eq_true (by kernel_rfl)) (by unfold Func.isWrapper;first|(rw[if_pos (by decide +kernel)];kernel_rfl)|(rw[if_neg (by decide +kernel)];exact⟨rfl,rfl⟩))
  (λos started H enc _ F=>by rw[OpenClaim.pre_eq_preRow];exact zc5 os started H enc F)
theorem zdh(f : FuncId)(fn : Func)(hf : Tryz.pinned.checked.prog.funcNamed "louver/louverlaw14.ConnMany" = some f)(hfn : Tryz.pinned.checked.prog.funcs[f]? = some fn) :
  true=Tryz.pinned.checked.prog.looks []∧∀(j:Nat) t,fn.params[j]?=some t→Tryz.pinned.checked.prog.wantsStandIn t=false:=by
 obtain rfl : f = 5 := Option.some.inj ((show Tryz.prog.funcNamed "louver/louverlaw14.ConnMany" = some 5 by kernel_rfl).symm.trans hf) |>.symm
 obtain rfl:fn=Tryz.f5:=(Option.some.inj (Tryz.func5.symm.trans hfn)).symm
 refine⟨by kernel_rfl,λj t ht=>?_⟩
 rw[Tryz.params5] at ht
 have ht':=Array.mem_of_getElem? ht
 change t∈(#[71]:Array Nat) at ht'
 simp only[List.mem_toArray,List.mem_cons,List.not_mem_nil,or_false] at ht'
 rcases ht' with rfl
 ·exact(show Tryz.prog.wantsStandIn 71=false by kernel_rfl)
theorem connMany_card:Rows.ConnManyCardSaid:=
 Claim7.holds_tied_plain_at .later [] _ _ _ _ zfs (λ_ h=>by cases h) (by kernel_rfl) (λ_ h=>by cases h) connMany_row_tie rfl ⟨rfl,rfl⟩ (by kernel_rfl) rfl zdh (by kernel_rfl)
end
end Go.Proofs.YtooaajnkiokpnaaGreatDoor
