/-
  WssplitNil: the law's walk. Conditions: errors.errorType holds what the program's text lays.
-/
import Derived.Test.YtejlbgllfkfkfaaDoorJfx
namespace Go.Proofs.YtejlbgllfkfkfaaDoor
open Go.RowKit Go.WideShapes

set_option maxRecDepth 100000 in
set_option maxHeartbeats 2000000 in
theorem jwnil_law {A : Option Addr} {c n : Nat} {w : World} (hG : GlobE w) : Calls Tryd.prog 5 #[.slice A n c] w fun e w' => e = .returned (.bool true) ∧ Below w.heap.size w w' := by
  have HG := Lib.hid hG
  clear hG
  go_enter Tryd.func5, Tryd.ntmps5
  go_wp2_with fail
  refine (jnext_nil _).mono ?_
  rintro e w1 ⟨rfl, hb1⟩
  have HB1 := Lib.hid hb1
  have HG1 := Lib.hid (HG.out.below hb1)
  clear hb1
  have HTW := Lib.hid (twoJ w1 (pcA Pc.zero none 0) (ftI (scI 0) 0) rfl)
  go_upto_region 3 with (first
    | (refine wpList_sw (cs := (pcA Pc.zero none 0)) rfl _ _ rfl rfl rfl HTW.out.1 rfl (pcA_ok _ _ _) ?_)
    | (refine wpList_sw (cs := (ftI (scI 0) 0)) rfl _ _ rfl rfl rfl HTW.out.2.1 (ftI_sz _ _ _ _) (ftI_ok _ _) ?_))
  have HP_w2 : Hid (Row ((((w1.alloc (.cells #[.bool false, .int .u8 0, .bool false, .int .u32 0, .slice none 0 0] 31)).alloc (.cells #[.int .u8 0, .int .u32 0] 33)).setRow w1.heap.size (pcA Pc.zero none 0)).setRow (w1.heap.size + 1) (ftI (scI 0) 0)) w1.heap.size 31 (pcA Pc.zero none 0)) := HTW.out.2.2.1
  have HT_w2 : Hid (Row ((((w1.alloc (.cells #[.bool false, .int .u8 0, .bool false, .int .u32 0, .slice none 0 0] 31)).alloc (.cells #[.int .u8 0, .int .u32 0] 33)).setRow w1.heap.size (pcA Pc.zero none 0)).setRow (w1.heap.size + 1) (ftI (scI 0) 0)) (w1.heap.size + 1) 33 (ftI (scI 0) 0)) := HTW.out.2.2.2.1
  have HB_w2 : Hid (Below w1.heap.size w1 ((((w1.alloc (.cells #[.bool false, .int .u8 0, .bool false, .int .u32 0, .slice none 0 0] 31)).alloc (.cells #[.int .u8 0, .int .u32 0] 33)).setRow w1.heap.size (pcA Pc.zero none 0)).setRow (w1.heap.size + 1) (ftI (scI 0) 0))) := HTW.out.2.2.2.2.1
  have HS_w2 : Hid (((((w1.alloc (.cells #[.bool false, .int .u8 0, .bool false, .int .u32 0, .slice none 0 0] 31)).alloc (.cells #[.int .u8 0, .int .u32 0] 33)).setRow w1.heap.size (pcA Pc.zero none 0)).setRow (w1.heap.size + 1) (ftI (scI 0) 0)).heap.size = w1.heap.size + 2) := HTW.out.2.2.2.2.2
  clear HTW
  generalize ((((w1.alloc (.cells #[.bool false, .int .u8 0, .bool false, .int .u32 0, .slice none 0 0] 31)).alloc (.cells #[.int .u8 0, .int .u32 0] 33)).setRow w1.heap.size (pcA Pc.zero none 0)).setRow (w1.heap.size + 1) (ftI (scI 0) 0)) = w2 at *
  have HB2 := Lib.hid (HB1.out.trans (HB_w2.out.mono HB1.out.size))
  have hfx := fixed17_any w2 (HG1.out.below HB_w2.out)
  clear HB1 HG1
  go_wp2_with fail
  refine hfx.mono ?_
  rintro e w3 ⟨rfl, hb3⟩
  have HB3 := Lib.hid (HB2.out.trans (hb3.mono HB2.out.size))
  have hP := HP_w2.out.below hb3 HP_w2.out.lt
  have HT := Lib.hid (HT_w2.out.below hb3 HT_w2.out.lt)
  have c4 : w3.cell? ⟨w1.heap.size, 4, none⟩ = some (.slice none 0 0) := hP.cell rfl
  have heq := ftI_eq
  clear hP hfx hb3 HP_w2 HT_w2 HB_w2 HB2
  go_wp2_with (first
    | (refine wpList_ldg (cs := #[.int .u8 0, .int .u32 0]) (by rfl) _ rfl rfl HT.out (ftI_ok 0 0) ?_)
    | (go_at_call 11; refine (jfeed_nil _ _).mono ?_; rintro e w6 ⟨rfl, rfl⟩)
    | (go_at_call 10; refine (jhld_nil _).mono ?_; rintro e w6 ⟨rfl, rfl⟩)
    | (go_at_call 9; refine (jbad_nil _).mono ?_; rintro e w6 ⟨rfl, rfl⟩))
  go_ret
  exact ⟨rfl, HB3.out⟩
end Go.Proofs.YtejlbgllfkfkfaaDoor
