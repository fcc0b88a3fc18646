/-
  A side's Send, by its contract. Conditions: the list is read; few lists wait.
  Settings by value, no program: what a setting does to settings, or what is wrong with it; a list's settings; the list that makes settings of others. No conditions.
  Settings, a setting and a fault by value: their cells, held against others. No conditions.
  settings' connFault, bit, Begin, may, check and the document's Begin, told, wrong, by their contracts. No conditions.
  settings' may, check, and the document's wrong, by their contracts. No conditions.
  settings' set and the document's with, by their contracts. No conditions.
  settings' Apply, by its contract. Condition: the list is read.
  The document's Apply, by its contract. Condition: the list is read.
  The law's own example: fixed answers true. No conditions.
  A side in memory; New, Waits, Now, Last, by their contracts; a nil side's. Condition: few lists wait.
  SettingsApply: the law's walk. Condition: the list is read.
  A nil side's Ack and Send, by their contracts; SettingsNil: the law's walk. No conditions.
-/
import Derived.Test.YtooaajnkiokpnaaGreatDoorProg
import Derived.Test.YtooaajnkiokpnaaGreatDoorAg
import Derived.Laws.StructEq
import Derived.ChangeKeysEq
import Derived.Test.YtooaajnkiokpnaaGreatDoorFs
import Derived.Deep.CutBlock
import Derived.Deep.DeepCutAuto
import Derived.Deep.RegionHeld3
import Derived.Test.YtooaajnkiokpnaaGreatDoorLast
import Derived.Test.YtooaajnkiokpnaaGreatDoorTail

namespace Go.Proofs.YtooaajnkiokpnaaGreatDoor

/-- Settings. -/
structure St where
  tb : Nat
  pu : Bool
  st : Nat
  wn : Nat
  fr : Nat
  hd : Nat
  co : Bool
  deriving DecidableEq
def begS : St := ⟨4096, true, 4294967295, 65535, 16384, 4294967295, false⟩
def zS : St := ⟨0, false, 0, 0, 0, 0, false⟩
/-- The code of what is wrong with a setting; 0: nothing. -/
def wrN (s : St) (i v : Nat) : Nat :=
  if i = 4 ∧ 2147483647 < v then 3 else if ((i = 2 ∨ i = 8) ∧ 1 < v) ∨ (i = 5 ∧ (v < 16384 ∨ 16777215 < v)) ∨ (i = 8 ∧ v = 0 ∧ s.co = true) then 1 else 0
/-- Settings behind a setting. -/
def stN (s : St) (i v : Nat) : St :=
  if i = 1 then { s with tb := v } else if i = 2 then { s with pu := decide (v = 1) } else if i = 3 then { s with st := v } else if i = 4 then { s with wn := v } else if i = 5 then { s with fr := v } else if i = 6 then { s with hd := v }
  else if i = 8 then { s with co := decide (v = 1) } else s
/-- Settings behind a list, and the code (0: none). -/
def apN (s0 : St) : St → List (Nat × Nat) → St × Nat
  | o, [] => (o, 0)
  | o, x :: l => if wrN o x.1 x.2 = 0 then apN s0 (stN o x.1 x.2) l else (s0, wrN o x.1 x.2)
theorem wrN_le (s : St) (i v : Nat) : wrN s i v = 0 ∨ wrN s i v = 1 ∨ wrN s i v = 3 := by
  unfold wrN
  split
  · exact .inr (.inr rfl)
  · split
    · exact .inr (.inl rfl)
    · exact .inl rfl
theorem apN_le (s0 : St) : ∀ (l : List (Nat × Nat)) (o : St), (apN s0 o l).2 = 0 ∨ (apN s0 o l).2 = 1 ∨ (apN s0 o l).2 = 3
  | [], _ => .inl rfl
  | x :: l, o => by
    unfold apN
    split
    · exact apN_le s0 l _
    · exact wrN_le o x.1 x.2
theorem apN_bad (s0 : St) : ∀ (l : List (Nat × Nat)) (o : St), (apN s0 o l).2 ≠ 0 → (apN s0 o l).1 = s0
  | [], _, h => absurd rfl h
  | x :: l, o, h => by
    unfold apN at h ⊢
    split
    · rename_i h0
      rw [if_pos h0] at h
      exact apN_bad s0 l _ h
    · rfl
theorem apN_step {s0 o : St} {l : List (Nat × Nat)} {k : Nat} (h : k < l.length) (h0 : wrN o l[k].1 l[k].2 = 0) : apN s0 o (l.drop k) = apN s0 (stN o l[k].1 l[k].2) (l.drop (k + 1)) := by
  rw [List.drop_eq_getElem_cons h, apN, if_pos h0]
theorem apN_stop {s0 o : St} {l : List (Nat × Nat)} {k : Nat} (h : k < l.length) (h0 : wrN o l[k].1 l[k].2 ≠ 0) : apN s0 o (l.drop k) = (s0, wrN o l[k].1 l[k].2) := by
  rw [List.drop_eq_getElem_cons h, apN, if_neg h0]
theorem apN_end {s0 o : St} {l : List (Nat × Nat)} : apN s0 o (l.drop l.length) = (o, 0) := by rw [List.drop_length]; rfl

/-- A flag's number. -/
def bitN (b : Bool) : Nat := if b then 1 else 0
/-- Settings as a list. -/
def allN (s : St) : List (Nat × Nat) := [(1, s.tb), (2, bitN s.pu), (3, s.st), (4, s.wn), (5, s.fr), (6, s.hd), (8, bitN s.co)]
/-- What of the second list is others than in the first one. -/
def dif : List (Nat × Nat) → List (Nat × Nat) → List (Nat × Nat)
  | a :: A, b :: B => (if b = a then [] else [b]) ++ dif A B
  | _, _ => []
theorem dif_snoc : ∀ (A B : List (Nat × Nat)) (a b : Nat × Nat), A.length = B.length → dif (A ++ [a]) (B ++ [b]) = dif A B ++ if b = a then [] else [b]
  | [], [], a, b, _ => by simp [dif]
  | x :: A, y :: B, a, b, h => by
    simp only [List.cons_append, dif]
    rw [dif_snoc A B a b (by simpa using h), List.append_assoc]
theorem dif_take {A B : List (Nat × Nat)} (h : A.length = B.length) {k : Nat} (h1 : k < A.length) (h2 : k < B.length) : dif (A.take (k + 1)) (B.take (k + 1)) = dif (A.take k) (B.take k) ++ if B[k] = A[k] then [] else [B[k]] := by
  rw [List.take_succ_eq_append_getElem h1, List.take_succ_eq_append_getElem h2]
  exact dif_snoc _ _ _ _ (by simp; omega)
theorem dif_sub : ∀ (A B : List (Nat × Nat)), (dif A B).Sublist B
  | [], B => by simp [dif]
  | _ :: _, [] => by simp [dif]
  | a :: A, b :: B => by
    unfold dif
    split
    · exact (dif_sub A B).cons _
    · exact (dif_sub A B).cons_cons _
theorem dif_self : ∀ A : List (Nat × Nat), dif A A = []
  | [] => rfl
  | a :: A => by simp [dif, dif_self A]
theorem dif_nil : ∀ (A B : List (Nat × Nat)), A.length = B.length → dif A B = [] → B = A
  | [], [], _, _ => rfl
  | a :: A, b :: B, hl, h => by
    unfold dif at h
    split at h
    · rename_i e
      rw [e, dif_nil A B (by simpa using hl) (by simpa using h)]
    · simp at h
theorem bitN_inj {a b : Bool} (h : bitN a = bitN b) : a = b := by cases a <;> cases b <;> simp_all [bitN]
theorem allN_inj {a b : St} (h : allN a = allN b) : a = b := by
  cases a; cases b
  simp only [allN, List.cons.injEq, Prod.mk.injEq, true_and, and_true] at h
  obtain ⟨rfl, h2, rfl, rfl, rfl, rfl, h8⟩ := h
  rw [bitN_inj h2, bitN_inj h8]
/-- The list that is told. -/
def tellN (a b : St) : List (Nat × Nat) := dif (allN a) (allN b)
theorem tellN_len (a b : St) : (tellN a b).length ≤ 7 := (dif_sub _ _).length_le
theorem tellN_self (a : St) : tellN a a = [] := dif_self _
theorem tellN_nil {a b : St} : (tellN a b).length = 0 ↔ a = b := by
  constructor
  · intro h
    exact (allN_inj (dif_nil (allN a) (allN b) rfl (List.eq_nil_of_length_eq_zero h))).symm
  · rintro rfl; rw [tellN_self]; rfl
theorem tellN_mem {a b : St} {x : Nat × Nat} (h : x ∈ tellN a b) : x ∈ allN b := (dif_sub _ _).subset h
theorem tellN_rise (a b : St) : (tellN a b).Pairwise fun x y => x.1 < y.1 := by
  refine List.Pairwise.sublist (dif_sub _ _) ?_
  simp [allN]
theorem tellN_rises {a b : St} {k : Nat} (h : k + 1 < (tellN a b).length) : (tellN a b)[k].1 < (tellN a b)[k + 1].1 := List.pairwise_iff_getElem.1 (tellN_rise a b) k (k + 1) (by omega) h (by omega)
theorem bit1 {c : Bool} (h : bitN c ≠ 0) : bitN c = 1 := by cases c <;> simp_all [bitN]
/-- A setting of settings isn't what is there already. -/
theorem all_turns {b : St} {x : Nat × Nat} (h : x ∈ allN b) (h0 : wrN zS x.1 x.2 = 0) (hv : x.2 ≠ 0) : stN zS x.1 x.2 ≠ zS := by
  simp only [allN, List.mem_cons, List.not_mem_nil, or_false] at h
  rcases h with rfl | rfl | rfl | rfl | rfl | rfl | rfl
  · simp_all [stN, zS]
  · simp [stN, zS, bit1 hv]
  · simp_all [stN, zS]
  · simp_all [stN, zS]
  · simp_all [stN, zS]
  · simp_all [stN, zS]
  · simp [stN, zS, bit1 hv]
theorem tellN_ids {a b : St} {x : Nat × Nat} (h : x ∈ tellN a b) : x.1 < 65536 := by
  have := tellN_mem h
  simp only [allN, List.mem_cons, List.not_mem_nil, or_false] at this
  rcases this with rfl | rfl | rfl | rfl | rfl | rfl | rfl <;> simp
theorem apN_one {s0 o o' : St} {i u v : Nat} {r : List (Nat × Nat)} (hw : v ≠ u → wrN o i v = 0) (h1 : v ≠ u → stN o i v = o') (h2 : v = u → o' = o) : apN s0 o ((if (i, v) = (i, u) then [] else [(i, v)]) ++ r) = apN s0 o' r := by
  by_cases h : v = u
  · rw [if_pos (by rw [h]), h2 h]; rfl
  · rw [if_neg (fun e => h (Prod.mk.inj e).2)]
    show apN s0 o ((i, v) :: r) = _
    rw [apN, if_pos (hw h), h1 h]
theorem bit_back (b : Bool) : decide (bitN b = 1) = b := by cases b <;> rfl
theorem bit_le (b : Bool) : bitN b ≤ 1 := by cases b <;> simp [bitN]
/-- Told and applied: settings are those that were told. -/
theorem tell_apply {a b : St} (hw : b.wn ≤ 2147483647) (hf : 16384 ≤ b.fr ∧ b.fr < 16777216) (hc : b.co = true ∨ a.co = false) : apN a a (tellN a b) = (b, 0) := by
  obtain ⟨a1, a2, a3, a4, a5, a6, a7⟩ := a
  obtain ⟨b1, b2, b3, b4, b5, b6, b7⟩ := b
  simp only at hw hf hc
  simp only [tellN, allN, dif]
  rw [apN_one (o' := ⟨b1, a2, a3, a4, a5, a6, a7⟩) (fun _ => by simp [wrN]) (fun _ => by simp [stN]) (fun h => by rw [h])]
  rw [apN_one (o' := ⟨b1, b2, a3, a4, a5, a6, a7⟩) (fun _ => by have := bit_le b2; simp [wrN]; omega) (fun _ => by simp [stN, bit_back]) (fun h => by rw [bitN_inj h])]
  rw [apN_one (o' := ⟨b1, b2, b3, a4, a5, a6, a7⟩) (fun _ => by simp [wrN]) (fun _ => by simp [stN]) (fun h => by rw [h])]
  rw [apN_one (o' := ⟨b1, b2, b3, b4, a5, a6, a7⟩) (fun _ => by simp [wrN]; omega) (fun _ => by simp [stN]) (fun h => by rw [h])]
  rw [apN_one (o' := ⟨b1, b2, b3, b4, b5, a6, a7⟩) (fun _ => by simp [wrN]; omega) (fun _ => by simp [stN]) (fun h => by rw [h])]
  rw [apN_one (o' := ⟨b1, b2, b3, b4, b5, b6, a7⟩) (fun _ => by simp [wrN]) (fun _ => by simp [stN]) (fun h => by rw [h])]
  rw [apN_one (o' := ⟨b1, b2, b3, b4, b5, b6, b7⟩) (fun h => by
    have hb : b7 = true ∧ a7 = false := by
      rcases hc with rfl | rfl
      · cases a7
        · exact ⟨rfl, rfl⟩
        · exact absurd rfl h
      · cases b7
        · exact absurd rfl h
        · exact ⟨rfl, rfl⟩
    obtain ⟨rfl, rfl⟩ := hb
    simp [wrN, bitN]) (fun _ => by simp [stN, bit_back]) (fun h => by rw [bitN_inj h])]
  rfl
/-- The settings that will be. -/
def lastN (n : St) (L : List St) : St := (n :: L)[L.length]'(by simp)
theorem lastN_nil (n : St) : lastN n [] = n := rfl
theorem lastN_cons (n a : St) (L : List St) : lastN n (a :: L) = lastN a L := rfl
theorem lastN_snoc : ∀ (L : List St) (n x : St), lastN n (L ++ [x]) = x
  | [], _, _ => rfl
  | a :: L, n, x => by rw [List.cons_append, lastN_cons]; exact lastN_snoc L a x
theorem lastN_at (n : St) {L : List St} (h : 0 < L.length) : lastN n L = L[L.length - 1]'(by omega) := by
  unfold lastN
  rw [List.getElem_cons, dif_neg (by omega)]
end Go.Proofs.YtooaajnkiokpnaaGreatDoor

namespace Go.Proofs.YtooaajnkiokpnaaGreatDoor
open Go.RowKit Go.WideShapes

/-- The cells of settings .. -/
def St.l (x : St) : List Value := [.int .u32 x.tb, .bool x.pu, .int .u32 x.st, .int .u32 x.wn, .int .u32 x.fr, .int .u32 x.hd, .bool x.co]
def St.c (x : St) : Array Value := #[.int .u32 x.tb, .bool x.pu, .int .u32 x.st, .int .u32 x.wn, .int .u32 x.fr, .int .u32 x.hd, .bool x.co]
/-- .. of a setting .. -/
def sec (i v : Nat) : Array Value := #[.int .u16 i, .int .u32 v]
def sgcG (s : Nat × Nat) : List Value := [.int .u16 (s.1 : Int), .int .u32 (s.2 : Int)]
/-- .. of a fault. -/
def ftcG (s c : Nat) : Array Value := #[.int .u8 s, .int .u32 c]
theorem St.cl (x : St) : x.c.toList = x.l := rfl
theorem St.cl' (x : St) : x.l.toArray = x.c := rfl
theorem St.llen (x : St) : x.l.length = 7 := rfl
theorem St.csize (x : St) : x.c.size = 7 := rfl
theorem ft_size (s c : Nat) : (ftcG s c).size = 2 := rfl
theorem ft_sz (s c s' c' : Nat) : (ftcG s c).size = (ftcG s' c').size := rfl
theorem St.sz (x y : St) : x.c.size = y.c.size := rfl
theorem sgc_lenG (s : Nat × Nat) : (sgcG s).length = 2 := rfl
theorem sgc_one (s : Nat × Nat) : ∀ u ∈ sgcG s, u.oneCell' = true := by intro u hu; simp [sgcG] at hu; rcases hu with rfl | rfl <;> rfl
theorem St.one (x : St) : ∀ u ∈ x.l, u.oneCell' = true := by intro u hu; simp [St.l] at hu; rcases hu with rfl | rfl | rfl | rfl | rfl | rfl | rfl <;> rfl
theorem beg_c : begS.c = #[.int .u32 4096, .bool true, .int .u32 4294967295, .int .u32 65535, .int .u32 16384, .int .u32 4294967295, .bool false] := rfl
theorem z_cG : zS.c = #[.int .u32 0, .bool false, .int .u32 0, .int .u32 0, .int .u32 0, .int .u32 0, .bool false] := rfl
theorem ft_c (s c : Nat) : ftcG s c = #[.int .u8 s, .int .u32 c] := rfl
theorem st_info : (Tryz.prog.info? 59).map (·.size) = some 7 := by kernel_rfl
theorem se_info : (Tryz.prog.info? 164).map (·.size) = some 2 := by kernel_rfl
theorem ft_info : (Tryz.prog.info? 29).map (·.size) = some 2 := by kernel_rfl
theorem St.ok (x : St) : AgOk Tryz.prog 59 x.c := ⟨⟨_, Tryz.underlying59⟩, st_info, by unfold St.c; kernel_rfl⟩
theorem se_ok (i v : Nat) : AgOk Tryz.prog 164 (sec i v) := ⟨⟨_, Tryz.underlying164⟩, se_info, by unfold sec; kernel_rfl⟩
theorem ft_ok (s c : Nat) : AgOk Tryz.prog 29 (ftcG s c) := ⟨⟨_, Tryz.underlying29⟩, ft_info, by unfold ftcG; kernel_rfl⟩
section
variable {w : World} {g : Nat}
theorem st_cells {x : St} (h : Row w g 59 x.c) : w.cell? ⟨g, 0, none⟩ = some (.int .u32 x.tb) ∧ w.cell? ⟨g, 1, none⟩ = some (.bool x.pu) ∧ w.cell? ⟨g, 2, none⟩ = some (.int .u32 x.st) ∧ w.cell? ⟨g, 3, none⟩ = some (.int .u32 x.wn) ∧
    w.cell? ⟨g, 4, none⟩ = some (.int .u32 x.fr) ∧ w.cell? ⟨g, 5, none⟩ = some (.int .u32 x.hd) ∧ w.cell? ⟨g, 6, none⟩ = some (.bool x.co) := ⟨h.cell rfl, h.cell rfl, h.cell rfl, h.cell rfl, h.cell rfl, h.cell rfl, h.cell rfl⟩
theorem se_cells {i v : Nat} (h : Row w g 164 (sec i v)) : w.cell? ⟨g, 0, none⟩ = some (.int .u16 i) ∧ w.cell? ⟨g, 1, none⟩ = some (.int .u32 v) := ⟨h.cell rfl, h.cell rfl⟩
end
theorem nat_eq (a b : Nat) : ((a : Int) == (b : Int)) = decide (a = b) := by
  by_cases h : a = b
  · subst h; simp
  · have : ¬ (a : Int) = (b : Int) := by omega
    simp [h, this]
theorem st_dec (x y : St) : decide (x = y) = (decide (x.tb = y.tb) && (decide (x.pu = y.pu) && (decide (x.st = y.st) && (decide (x.wn = y.wn) && (decide (x.fr = y.fr) && (decide (x.hd = y.hd) && decide (x.co = y.co))))))) := by
  cases x; cases y
  rw [Bool.eq_iff_iff]
  simp
section
variable {P : Program}
/-- One field, held against the other's. -/
theorem eqF {d : Nat} {f : Field} {fs : List Field} {xs ys : Array Value} {w : World} {a b : Value} {r : Bool} (hn : f.name ≠ "_") (hp : P.plainKey f.type = true) (hx : xs[f.offset]? = some a) (hy : ys[f.offset]? = some b) (he : (Op.equalIn d f.type a b).run P w = .ok r w) :
    (Op.eqFields d xs ys (f :: fs)).run P w = if r = true then (Op.eqFields d xs ys fs).run P w else .ok false w := by
  simp only [Op.eqFields, Sem.run_bind, Sem.run_ite, if_pos hn, run_part_plain w hp hx, run_part_plain w hp hy, Result.andThen_ok, he]
  cases r <;> simp
theorem fieldsOf_eq {t : TypeId} {fs : Array Field} (h : P.underlying t = some (.struct fs)) : P.fieldsOf t = fs := by unfold Program.fieldsOf; rw [h]
theorem eqF_nil {d : Nat} {xs ys : Array Value} {w : World} : (Op.eqFields d xs ys []).run P w = .ok true w := rfl
end
theorem and_if {a b : Bool} {w : World} : (if a = true then (Result.ok b w : Result Bool) else .ok false w) = .ok (a && b) w := by cases a <;> rfl
theorem bool_eq (a b : Bool) : (a == b) = decide (a = b) := by cases a <;> cases b <;> rfl
set_option maxRecDepth 100000 in
theorem st_eqIn (x y : St) (w : World) : (Op.equalIn 10000 59 (.agg x.c) (.agg y.c)).run Tryz.prog w = .ok (decide (x = y)) w := by
  have h1 := fieldsOf_eq Tryz.underlying59
  rw [show (10000 : Nat) = 9998 + 1 + 1 from rfl, run_equalIn_struct w 9999 59 _ _ (by kernel_rfl) (by kernel_rfl), h1]
  have hi := fun (a b : Nat) => (run_equalIn_int (P := Tryz.prog) w 9998 24 .u32 .u32 a b Tryz.underlying24).trans (by rw [nat_eq])
  have hb := fun (a b : Bool) => (run_equalIn_bool' (P := Tryz.prog) w 9998 4 a b Tryz.underlying4).trans (by rw [bool_eq])
  rw [eqF (by decide) (by kernel_rfl) rfl rfl (hi x.tb y.tb), eqF (by decide) (by kernel_rfl) rfl rfl (hb x.pu y.pu), eqF (by decide) (by kernel_rfl) rfl rfl (hi x.st y.st), eqF (by decide) (by kernel_rfl) rfl rfl (hi x.wn y.wn),
    eqF (by decide) (by kernel_rfl) rfl rfl (hi x.fr y.fr), eqF (by decide) (by kernel_rfl) rfl rfl (hi x.hd y.hd), eqF (by decide) (by kernel_rfl) rfl rfl (hb x.co y.co), eqF_nil]
  rw [and_if, and_if, and_if, and_if, and_if, and_if, and_if, st_dec, Bool.and_true]
theorem st_eql (x y : St) (w : World) : (binOp .eql 59 (.agg x.c) (.agg y.c)).run Tryz.prog w = .ok (.bool (decide (x = y))) w := by rw [run_eql_struct, st_eqIn]; rfl
theorem st_neq (x y : St) (w : World) : (binOp .neq 59 (.agg x.c) (.agg y.c)).run Tryz.prog w = .ok (.bool (!decide (x = y))) w := by rw [run_neq_struct, st_eqIn]; rfl
set_option maxRecDepth 100000 in
theorem ft_eqIn (s c s' c' : Nat) (w : World) : (Op.equalIn 10000 29 (.agg (ftcG s c)) (.agg (ftcG s' c'))).run Tryz.prog w = .ok (decide (s = s') && decide (c = c')) w := by
  have h1 := fieldsOf_eq Tryz.underlying29
  rw [show (10000 : Nat) = 9998 + 1 + 1 from rfl, run_equalIn_struct w 9999 29 _ _ (by kernel_rfl) (by kernel_rfl), h1]
  have h8 := fun (a b : Nat) => (run_equalIn_int (P := Tryz.prog) w 9998 5 .u8 .u8 a b Tryz.underlying5).trans (by rw [nat_eq])
  have hi := fun (a b : Nat) => (run_equalIn_int (P := Tryz.prog) w 9998 24 .u32 .u32 a b Tryz.underlying24).trans (by rw [nat_eq])
  rw [eqF (by decide) (by kernel_rfl) rfl rfl (h8 s s'), eqF (by decide) (by kernel_rfl) rfl rfl (hi c c'), eqF_nil]
  rw [and_if, and_if, Bool.and_true]
theorem ft_eql (s c s' c' : Nat) (w : World) : (binOp .eql 29 (.agg (ftcG s c)) (.agg (ftcG s' c'))).run Tryz.prog w = .ok (.bool (decide (s = s') && decide (c = c'))) w := by rw [run_eql_struct, ft_eqIn]; rfl
theorem ft_neq (s c s' c' : Nat) (w : World) : (binOp .neq 29 (.agg (ftcG s c)) (.agg (ftcG s' c'))).run Tryz.prog w = .ok (.bool (!(decide (s = s') && decide (c = c')))) w := by rw [run_neq_struct, ft_eqIn]; rfl
set_option maxRecDepth 100000 in
theorem se_eqIn (i v i' v' : Nat) (w : World) : (Op.equalIn 10000 164 (.agg (sec i v)) (.agg (sec i' v'))).run Tryz.prog w = .ok (decide ((i, v) = (i', v'))) w := by
  have h1 := fieldsOf_eq Tryz.underlying164
  rw [show (10000 : Nat) = 9998 + 1 + 1 from rfl, run_equalIn_struct w 9999 164 _ _ (by kernel_rfl) (by kernel_rfl), h1]
  have h8 := fun (a b : Nat) => (run_equalIn_int (P := Tryz.prog) w 9998 49 .u16 .u16 a b Tryz.underlying49).trans (by rw [nat_eq])
  have hi := fun (a b : Nat) => (run_equalIn_int (P := Tryz.prog) w 9998 24 .u32 .u32 a b Tryz.underlying24).trans (by rw [nat_eq])
  rw [eqF (by decide) (by kernel_rfl) rfl rfl (h8 i i'), eqF (by decide) (by kernel_rfl) rfl rfl (hi v v'), eqF_nil]
  rw [and_if, and_if, Bool.and_true]
  congr 1
  rw [Bool.eq_iff_iff]
  simp
theorem se_neq (i v i' v' : Nat) (w : World) : (binOp .neq 164 (.agg (sec i v)) (.agg (sec i' v'))).run Tryz.prog w = .ok (.bool (!decide ((i, v) = (i', v')))) w := by rw [run_neq_struct, se_eqIn]; rfl
end Go.Proofs.YtooaajnkiokpnaaGreatDoor

namespace Go.Proofs.YtooaajnkiokpnaaGreatDoor
open Go.RowKit Go.WideShapes

set_option maxRecDepth 100000 in
set_option maxHeartbeats 1000000 in
theorem connFault_anyG (k : Nat) (w : World) : Calls Tryz.prog 122 #[.int .u32 (k : Int)] w fun e w' => e = .returned (.agg (ftcG 1 k)) ∧ Below w.heap.size w w' := by
  have HR : Hid (Row (w.alloc (.cells #[.int .u8 0, .int .u32 0] 29)) w.heap.size 29 (ftcG 0 0)) := Row.new w _ _
  go_enter Tryz.func122, Tryz.ntmps122
  go_wp2_with (refine wpList_sw (cs := ftcG 1 k) rfl _ _ rfl rfl rfl HR.out rfl (ft_ok _ _) ?_)
  exact bodyPost_ret (ret_ag rfl _ rfl (HR.out.setRow _) (ft_ok _ _)) rfl ⟨rfl, below_setRow ((Below.refl _ _).alloc (Nat.le_refl _) _) _ _ (Nat.le_refl _)⟩
set_option maxRecDepth 100000 in
set_option maxHeartbeats 1000000 in
theorem begi_any (w : World) : Calls Tryz.prog 54 #[] w fun e w' => e = .returned (.agg begS.c) ∧ Below w.heap.size w w' := by
  have HR : Hid (Row (w.alloc (.cells #[.int .u32 0, .bool false, .int .u32 0, .int .u32 0, .int .u32 0, .int .u32 0, .bool false] 59)) w.heap.size 59 zS.c) := Row.new w _ _
  go_enter Tryz.func54, Tryz.ntmps54
  go_wp2_with (refine wpList_sw (cs := begS.c) rfl _ _ rfl rfl rfl HR.out rfl (St.ok _) ?_)
  exact bodyPost_ret (ret_ag rfl _ rfl (HR.out.setRow _) (St.ok _)) rfl ⟨rfl, below_setRow ((Below.refl _ _).alloc (Nat.le_refl _) _) _ _ (Nat.le_refl _)⟩
/-- The document's number of a code. -/
def cdN (n : Nat) : Nat := if n = 0 then 99 else n
theorem cdN_0 : cdN 0 = 99 := rfl
end Go.Proofs.YtooaajnkiokpnaaGreatDoor

namespace Go.Proofs.YtooaajnkiokpnaaGreatDoor
open Go.RowKit Go.WideShapes

theorem ne_nat {a : Nat} {b : Nat} (h : a ≠ b) : ((a : Int) == (b : Int)) = false := by rw [nat_eq]; exact decide_eq_false h
/-- The ways of a setting. -/
inductive Way (s : St) : Nat → Nat → Nat → Prop
  | two0 (v : Nat) (h : v ≤ 1) : Way s 2 v 0
  | two1 (v : Nat) (h : 1 < v) : Way s 2 v 1
  | four0 (v : Nat) (h : v ≤ 2147483647) : Way s 4 v 0
  | four3 (v : Nat) (h : 2147483647 < v) : Way s 4 v 3
  | five0 (v : Nat) (h : 16384 ≤ v) (h2 : v ≤ 16777215) : Way s 5 v 0
  | fiveL (v : Nat) (h : v < 16384) : Way s 5 v 1
  | fiveG (v : Nat) (h : 16777215 < v) : Way s 5 v 1
  | eight1 : Way s 8 1 0
  | eight0 (h : s.co = false) : Way s 8 0 0
  | eightX (h : s.co = true) : Way s 8 0 1
  | eightG (v : Nat) (h : 1 < v) : Way s 8 v 1
  | rest (i v : Nat) (h2 : i ≠ 2) (h4 : i ≠ 4) (h5 : i ≠ 5) (h8 : i ≠ 8) : Way s i v 0
theorem way (s : St) (i v : Nat) : Way s i v (wrN s i v) := by
  by_cases h2 : i = 2
  · subst h2
    by_cases h : v ≤ 1
    · rw [show wrN s 2 v = 0 by unfold wrN; simp; omega]; exact .two0 v h
    · rw [show wrN s 2 v = 1 by unfold wrN; simp; omega]; exact .two1 v (by omega)
  by_cases h4 : i = 4
  · subst h4
    by_cases h : v ≤ 2147483647
    · rw [show wrN s 4 v = 0 by unfold wrN; simp; omega]; exact .four0 v h
    · rw [show wrN s 4 v = 3 by unfold wrN; simp; omega]; exact .four3 v (by omega)
  by_cases h5 : i = 5
  · subst h5
    by_cases h : v < 16384
    · rw [show wrN s 5 v = 1 by unfold wrN; simp; omega]; exact .fiveL v h
    · by_cases h' : v ≤ 16777215
      · rw [show wrN s 5 v = 0 by unfold wrN; simp; omega]; exact .five0 v (by omega) h'
      · rw [show wrN s 5 v = 1 by unfold wrN; simp; omega]; exact .fiveG v (by omega)
  by_cases h8 : i = 8
  · subst h8
    by_cases h : 1 < v
    · rw [show wrN s 8 v = 1 by unfold wrN; simp; omega]; exact .eightG v h
    · by_cases h1 : v = 1
      · subst h1
        rw [show wrN s 8 1 = 0 by unfold wrN; simp]; exact .eight1
      · obtain rfl : v = 0 := by omega
        by_cases hc : s.co = true
        · rw [show wrN s 8 0 = 1 by unfold wrN; simp [hc]]; exact .eightX hc
        · rw [show wrN s 8 0 = 0 by unfold wrN; simp [hc]]; exact .eight0 (by simpa using hc)
  rw [show wrN s i v = 0 by unfold wrN; simp [h2, h4, h5, h8]]
  exact .rest i v h2 h4 h5 h8
attribute [local irreducible] St.c ftcG

set_option maxRecDepth 100000 in
set_option maxHeartbeats 2000000 in
theorem may_anyG (s : St) (i v : Nat) (w : World) : Calls Tryz.prog 188 #[.agg s.c, .agg (sec i v)] w fun e w' => e = .returned (.bool (decide (wrN s i v = 0))) ∧ Below w.heap.size w w' := by
  have HS : Hid (Row ((w.alloc (.cells s.c 59)).alloc (.cells (sec i v) 164)) w.heap.size 59 s.c) := (Row.new w _ _).alloc _
  have HX : Hid (Row ((w.alloc (.cells s.c 59)).alloc (.cells (sec i v) 164)) (w.heap.size + 1) 164 (sec i v)) := Row.made _ _ _ (by simp)
  have HB : Hid (Below w.heap.size w ((w.alloc (.cells s.c 59)).alloc (.cells (sec i v) 164))) := ((Below.refl _ _).alloc (Nat.le_refl _) _).alloc (by simp) _
  have c6 := (st_cells HS.out).2.2.2.2.2.2
  obtain ⟨x0, x1⟩ := se_cells HX.out
  have hw := way s i v
  generalize wrN s i v = n at *
  cases hw with
  | two0 _ h =>
    have h' : (v : Int) ≤ 1 := by omega
    clear h c6
    go_enter Tryz.func188, Tryz.ntmps188
    go_wp2
    go_ret
    exact ⟨rfl, HB.out⟩
  | two1 _ h =>
    have h' : decide ((v : Int) ≤ 1) = false := by simp; omega
    clear h c6
    go_enter Tryz.func188, Tryz.ntmps188
    go_wp2
    go_ret
    exact ⟨rfl, HB.out⟩
  | four0 _ h =>
    have h' : (v : Int) ≤ 2147483647 := by omega
    clear h c6
    go_enter Tryz.func188, Tryz.ntmps188
    go_wp2
    go_ret
    exact ⟨rfl, HB.out⟩
  | four3 _ h =>
    have h' : decide ((v : Int) ≤ 2147483647) = false := by simp; omega
    clear h c6
    go_enter Tryz.func188, Tryz.ntmps188
    go_wp2
    go_ret
    exact ⟨rfl, HB.out⟩
  | five0 _ h h2 =>
    have h' : (16384 : Int) ≤ (v : Int) := by omega
    have h2' : (v : Int) ≤ 16777215 := by omega
    clear h h2 c6
    go_enter Tryz.func188, Tryz.ntmps188
    go_wp2
    go_ret
    exact ⟨rfl, HB.out⟩
  | fiveL _ h =>
    have h' : decide ((16384 : Int) ≤ (v : Int)) = false := by simp; omega
    clear h c6
    go_enter Tryz.func188, Tryz.ntmps188
    go_wp2
    go_ret
    exact ⟨rfl, HB.out⟩
  | fiveG _ h =>
    have h' : (16384 : Int) ≤ (v : Int) := by omega
    have h2' : decide ((v : Int) ≤ 16777215) = false := by simp; omega
    clear h c6
    go_enter Tryz.func188, Tryz.ntmps188
    go_wp2
    go_ret
    exact ⟨rfl, HB.out⟩
  | eight1 =>
    clear c6
    go_enter Tryz.func188, Tryz.ntmps188
    go_wp2
    go_ret
    exact ⟨rfl, HB.out⟩
  | eight0 h =>
    rw [h] at c6
    clear h
    go_enter Tryz.func188, Tryz.ntmps188
    go_wp2
    go_ret
    exact ⟨rfl, HB.out⟩
  | eightX h =>
    rw [h] at c6
    clear h
    go_enter Tryz.func188, Tryz.ntmps188
    go_wp2
    go_ret
    exact ⟨rfl, HB.out⟩
  | eightG _ h =>
    have h1 : ((v : Int) == 1) = false := ne_nat (b := 1) (by omega)
    have h0 : ((v : Int) == 0) = false := ne_nat (b := 0) (by omega)
    clear h c6
    go_enter Tryz.func188, Tryz.ntmps188
    go_wp2
    go_ret
    exact ⟨rfl, HB.out⟩
  | rest _ _ h2 h4 h5 h8 =>
    have e2 : ((i : Int) == 2) = false := ne_nat (b := 2) h2
    have e4 : ((i : Int) == 4) = false := ne_nat (b := 4) h4
    have e5 : ((i : Int) == 5) = false := ne_nat (b := 5) h5
    have e8 : ((i : Int) == 8) = false := ne_nat (b := 8) h8
    clear h2 h4 h5 h8 c6
    go_enter Tryz.func188, Tryz.ntmps188
    go_wp2
    go_ret
    exact ⟨rfl, HB.out⟩

set_option maxRecDepth 100000 in
set_option maxHeartbeats 2000000 in
theorem check_any (s : St) (i v : Nat) (w : World) : Calls Tryz.prog 158 #[.agg s.c, .agg (sec i v)] w fun e w' => e = .returned (.agg (ftcG (if wrN s i v = 0 then 0 else 1) (wrN s i v))) ∧ Below w.heap.size w w' := by
  have hz : ftcG 0 0 = #[.int .u8 0, .int .u32 0] := by unfold ftcG; rfl
  have HS : Hid (Row (((w.alloc (.cells s.c 59)).alloc (.cells (sec i v) 164)).alloc (.cells #[.int .u8 0, .int .u32 0] 29)) w.heap.size 59 s.c) := ((Row.new w _ _).alloc _).alloc _
  have HX : Hid (Row (((w.alloc (.cells s.c 59)).alloc (.cells (sec i v) 164)).alloc (.cells #[.int .u8 0, .int .u32 0] 29)) (w.heap.size + 1) 164 (sec i v)) := (Row.made _ _ _ (by simp)).alloc _
  have HR : Hid (Row (((w.alloc (.cells s.c 59)).alloc (.cells (sec i v) 164)).alloc (.cells #[.int .u8 0, .int .u32 0] 29)) (w.heap.size + 2) 29 (ftcG 0 0)) := by show Row _ _ _ _; rw [hz]; exact Row.made _ _ _ (by simp)
  have HB : Hid (Below w.heap.size w (((w.alloc (.cells s.c 59)).alloc (.cells (sec i v) 164)).alloc (.cells #[.int .u8 0, .int .u32 0] 29))) := (((Below.refl _ _).alloc (Nat.le_refl _) _).alloc (by simp) _).alloc (by simp; omega) _
  have hm := may_anyG s i v
  have hw := wrN_le s i v
  have h4 : i = 4 ∧ (wrN s i v = 3 ∨ wrN s i v = 0) ∨ ((i : Int) == 4) = false ∧ (wrN s i v = 0 ∨ wrN s i v = 1) := by
    by_cases e : i = 4
    · subst e
      refine .inl ⟨rfl, ?_⟩
      by_cases h : 2147483647 < v
      · exact .inl (by simp [wrN, h])
      · exact .inr (by simp [wrN, h])
    · refine .inr ⟨ne_nat (b := 4) e, ?_⟩
      rcases hw with h | h | h
      · exact .inl h
      · exact .inr h
      · exfalso
        unfold wrN at h
        rw [if_neg (fun x => e x.1)] at h
        split at h <;> omega
  clear hz hw
  generalize wrN s i v = n at *
  have hN : n = 0 ∨ ((i = 4 ∧ n = 3) ∨ (((i : Int) == 4) = false ∧ n = 1)) := by
    rcases h4 with ⟨rfl, rfl | rfl⟩ | ⟨e, rfl | rfl⟩
    · exact .inr (.inl ⟨rfl, rfl⟩)
    · exact .inl rfl
    · exact .inl rfl
    · exact .inr (.inr ⟨e, rfl⟩)
  clear h4
  rcases hN with rfl | ⟨rfl, rfl⟩ | ⟨e4, rfl⟩
  · go_enter Tryz.func158, Tryz.ntmps158
    go_wp2_with (first | (refine wpList_ld rfl _ rfl rfl HS.out (St.ok _) ?_) | (refine wpList_ld rfl _ rfl rfl HX.out (se_ok _ _) ?_))
    refine (hm _).mono ?_
    rintro e w1 ⟨rfl, hb⟩
    have HR1 := Lib.hid (HR.out.below hb HR.out.lt)
    have HB1 := Lib.hid (HB.out.trans (hb.mono HB.out.size))
    clear hb HR HB HS HX hm
    go_wp2_with (refine wpList_sw (cs := ftcG 0 0) rfl _ _ rfl rfl (by unfold ftcG; rfl) HR1.out (ft_sz _ _ _ _) (ft_ok _ _) ?_)
    exact bodyPost_ret (ret_ag rfl _ rfl (HR1.out.setRow _) (ft_ok _ _)) rfl ⟨rfl, below_setRow HB1.out _ _ (by omega)⟩
  · go_enter Tryz.func158, Tryz.ntmps158
    go_wp2_with (first | (refine wpList_ld rfl _ rfl rfl HS.out (St.ok _) ?_) | (refine wpList_ld rfl _ rfl rfl HX.out (se_ok _ _) ?_))
    refine (hm _).mono ?_
    rintro e w1 ⟨rfl, hb⟩
    have HR1 := Lib.hid (HR.out.below hb HR.out.lt)
    have x0 := (se_cells (HX.out.below hb HX.out.lt)).1
    have HB1 := Lib.hid (HB.out.trans (hb.mono HB.out.size))
    clear hb HR HB HS HX hm
    go_wp2_with fail
    refine (connFault_anyG 3 _).mono ?_
    rintro e w2 ⟨rfl, hb⟩
    have HR2 := Lib.hid (HR1.out.below hb HR1.out.lt)
    have HB2 := Lib.hid (HB1.out.trans (hb.mono HB1.out.size))
    clear hb HR1 HB1 x0
    go_wp2_with (refine wpList_sw (cs := ftcG 1 3) rfl _ _ rfl rfl rfl HR2.out (ft_sz _ _ _ _) (ft_ok _ _) ?_)
    exact bodyPost_ret (ret_ag rfl _ rfl (HR2.out.setRow _) (ft_ok _ _)) rfl ⟨rfl, below_setRow HB2.out _ _ (by omega)⟩
  · go_enter Tryz.func158, Tryz.ntmps158
    go_wp2_with (first | (refine wpList_ld rfl _ rfl rfl HS.out (St.ok _) ?_) | (refine wpList_ld rfl _ rfl rfl HX.out (se_ok _ _) ?_))
    refine (hm _).mono ?_
    rintro e w1 ⟨rfl, hb⟩
    have HR1 := Lib.hid (HR.out.below hb HR.out.lt)
    have x0 := (se_cells (HX.out.below hb HX.out.lt)).1
    have HB1 := Lib.hid (HB.out.trans (hb.mono HB.out.size))
    clear hb HR HB HS HX hm
    go_wp2_with fail
    refine (connFault_anyG 1 _).mono ?_
    rintro e w2 ⟨rfl, hb⟩
    have HR2 := Lib.hid (HR1.out.below hb HR1.out.lt)
    have HB2 := Lib.hid (HB1.out.trans (hb.mono HB1.out.size))
    clear hb HR1 HB1 x0
    go_wp2_with (refine wpList_sw (cs := ftcG 1 1) rfl _ _ rfl rfl rfl HR2.out (ft_sz _ _ _ _) (ft_ok _ _) ?_)
    exact bodyPost_ret (ret_ag rfl _ rfl (HR2.out.setRow _) (ft_ok _ _)) rfl ⟨rfl, below_setRow HB2.out _ _ (by omega)⟩
end Go.Proofs.YtooaajnkiokpnaaGreatDoor

namespace Go.Proofs.YtooaajnkiokpnaaGreatDoor
open Go.RowKit Go.WideShapes

theorem set_row0 {w : World} {g : Nat} {s : St} {v : Nat} (h : Row w g 59 s.c) : Row (w.setCell ⟨g, 0, none⟩ (.int .u32 (v : Int))) g 59 (stN s 1 v).c := h.stored 0 _
theorem set_row2 {w : World} {g : Nat} {s : St} {v : Nat} (h : Row w g 59 s.c) : Row (w.setCell ⟨g, 2, none⟩ (.int .u32 (v : Int))) g 59 (stN s 3 v).c := h.stored 2 _
theorem set_row3 {w : World} {g : Nat} {s : St} {v : Nat} (h : Row w g 59 s.c) : Row (w.setCell ⟨g, 3, none⟩ (.int .u32 (v : Int))) g 59 (stN s 4 v).c := h.stored 3 _
theorem set_row4 {w : World} {g : Nat} {s : St} {v : Nat} (h : Row w g 59 s.c) : Row (w.setCell ⟨g, 4, none⟩ (.int .u32 (v : Int))) g 59 (stN s 5 v).c := h.stored 4 _
theorem set_row5 {w : World} {g : Nat} {s : St} {v : Nat} (h : Row w g 59 s.c) : Row (w.setCell ⟨g, 5, none⟩ (.int .u32 (v : Int))) g 59 (stN s 6 v).c := h.stored 5 _
theorem set_row1 {w : World} {g : Nat} {s : St} {v : Nat} (h : Row w g 59 s.c) : Row (w.setCell ⟨g, 1, none⟩ (.bool (decide (v = 1)))) g 59 (stN s 2 v).c := h.stored 1 _
theorem set_row6 {w : World} {g : Nat} {s : St} {v : Nat} (h : Row w g 59 s.c) : Row (w.setCell ⟨g, 6, none⟩ (.bool (decide (v = 1)))) g 59 (stN s 8 v).c := h.stored 6 _
/-- The ways of a setting that is set. -/
theorem way2 (i : Nat) : (i = 1 ∨ i = 2 ∨ i = 3 ∨ i = 4 ∨ i = 5 ∨ i = 6 ∨ i = 8) ∨ ((((i : Int) == 1) = false ∧ ((i : Int) == 2) = false ∧ ((i : Int) == 3) = false ∧ ((i : Int) == 4) = false ∧ ((i : Int) == 5) = false ∧ ((i : Int) == 6) = false ∧ ((i : Int) == 8) = false) ∧ ∀ s v, stN s i v = s) := by
  by_cases h1 : i = 1
  · exact .inl (.inl h1)
  by_cases h2 : i = 2
  · exact .inl (.inr (.inl h2))
  by_cases h3 : i = 3
  · exact .inl (.inr (.inr (.inl h3)))
  by_cases h4 : i = 4
  · exact .inl (.inr (.inr (.inr (.inl h4))))
  by_cases h5 : i = 5
  · exact .inl (.inr (.inr (.inr (.inr (.inl h5)))))
  by_cases h6 : i = 6
  · exact .inl (.inr (.inr (.inr (.inr (.inr (.inl h6))))))
  by_cases h8 : i = 8
  · exact .inl (.inr (.inr (.inr (.inr (.inr (.inr h8))))))
  exact .inr ⟨⟨ne_nat (b := 1) h1, ne_nat (b := 2) h2, ne_nat (b := 3) h3, ne_nat (b := 4) h4, ne_nat (b := 5) h5, ne_nat (b := 6) h6, ne_nat (b := 8) h8⟩, fun s v => by unfold stN; rw [if_neg h1, if_neg h2, if_neg h3, if_neg h4, if_neg h5, if_neg h6, if_neg h8]⟩
theorem one_eq (v : Nat) : ((v : Int) == 1) = decide (v = 1) := nat_eq v 1
attribute [local irreducible] St.c ftcG

set_option maxRecDepth 100000 in
set_option maxHeartbeats 2000000 in
theorem set_any (s : St) (i v : Nat) (w : World) : Calls Tryz.prog 159 #[.agg s.c, .agg (sec i v)] w fun e w' => e = .returned (.agg (stN s i v).c) ∧ Below w.heap.size w w' := by
  have hz : zS.c = #[.int .u32 0, .bool false, .int .u32 0, .int .u32 0, .int .u32 0, .int .u32 0, .bool false] := by unfold St.c; rfl
  have HS : Hid (Row (((w.alloc (.cells s.c 59)).alloc (.cells (sec i v) 164)).alloc (.cells #[.int .u32 0, .bool false, .int .u32 0, .int .u32 0, .int .u32 0, .int .u32 0, .bool false] 59)) w.heap.size 59 s.c) := ((Row.new w _ _).alloc _).alloc _
  have HX : Hid (Row (((w.alloc (.cells s.c 59)).alloc (.cells (sec i v) 164)).alloc (.cells #[.int .u32 0, .bool false, .int .u32 0, .int .u32 0, .int .u32 0, .int .u32 0, .bool false] 59)) (w.heap.size + 1) 164 (sec i v)) := (Row.made _ _ _ (by simp)).alloc _
  have HR : Hid (Row (((w.alloc (.cells s.c 59)).alloc (.cells (sec i v) 164)).alloc (.cells #[.int .u32 0, .bool false, .int .u32 0, .int .u32 0, .int .u32 0, .int .u32 0, .bool false] 59)) (w.heap.size + 2) 59 zS.c) := by show Row _ _ _ _; rw [hz]; exact Row.made _ _ _ (by simp)
  have HB : Hid (Below w.heap.size w (((w.alloc (.cells s.c 59)).alloc (.cells (sec i v) 164)).alloc (.cells #[.int .u32 0, .bool false, .int .u32 0, .int .u32 0, .int .u32 0, .int .u32 0, .bool false] 59))) := (((Below.refl _ _).alloc (Nat.le_refl _) _).alloc (by simp) _).alloc (by simp; omega) _
  have HD : Hid (w.heap.size < w.heap.size + 2) := by show _ < _; omega
  go_enter Tryz.func159, Tryz.ntmps159
  go_upto_region 1 with fail
  generalize ((w.alloc (.cells s.c 59)).alloc (.cells (sec i v) 164)).alloc (.cells #[.int .u32 0, .bool false, .int .u32 0, .int .u32 0, .int .u32 0, .int .u32 0, .bool false] 59) = w1 at *
  obtain ⟨x0, x1⟩ := se_cells HX.out
  obtain ⟨s0, s1, s2, s3, s4, s5, s6⟩ := st_cells HS.out
  have z0 := HS.out.thawed 0
  have z1 := HS.out.thawed 1
  have z2 := HS.out.thawed 2
  have z3 := HS.out.thawed 3
  have z4 := HS.out.thawed 4
  have z5 := HS.out.thawed 5
  have z6 := HS.out.thawed 6
  have hv1 := one_eq v
  have HRx : ∀ (j : Nat) (x : Value), Hid (Row (w1.setCell ⟨w.heap.size, j, none⟩ x) (w.heap.size + 2) 59 zS.c) := fun j x => HR.out.stored' (by simp) x
  have HBx : ∀ (j : Nat) (x : Value) (c : Array Value), Hid (Below w.heap.size w ((w1.setCell ⟨w.heap.size, j, none⟩ x).setRow (w.heap.size + 2) c)) := fun j x c => below_setRow (HB.out.setCell (p := ⟨w.heap.size, j, none⟩) (Nat.le_refl _) x) _ _ (by omega)
  clear hz
  rcases way2 i with (rfl | rfl | rfl | rfl | rfl | rfl | rfl) | ⟨⟨e1, e2, e3, e4, e5, e6, e8⟩, hN⟩
  · have HS2 := Lib.hid (set_row0 (v := v) HS.out)
    go_wp2_with (first | (refine wpList_ld rfl _ rfl rfl HS2.out (St.ok _) ?_) | (refine wpList_sw (cs := (stN s 1 v).c) rfl _ _ rfl rfl rfl (HRx _ _).out (St.sz _ _) (St.ok _) ?_))
    exact bodyPost_ret (ret_ag rfl _ rfl ((HRx _ _).out.setRow _) (St.ok _)) rfl ⟨rfl, (HBx _ _ _).out⟩
  · have HS2 := Lib.hid (set_row1 (v := v) HS.out)
    go_wp2_with (first | (refine wpList_ld rfl _ rfl rfl HS2.out (St.ok _) ?_) | (refine wpList_sw (cs := (stN s 2 v).c) rfl _ _ rfl rfl rfl (HRx _ _).out (St.sz _ _) (St.ok _) ?_))
    exact bodyPost_ret (ret_ag rfl _ rfl ((HRx _ _).out.setRow _) (St.ok _)) rfl ⟨rfl, (HBx _ _ _).out⟩
  · have HS2 := Lib.hid (set_row2 (v := v) HS.out)
    go_wp2_with (first | (refine wpList_ld rfl _ rfl rfl HS2.out (St.ok _) ?_) | (refine wpList_sw (cs := (stN s 3 v).c) rfl _ _ rfl rfl rfl (HRx _ _).out (St.sz _ _) (St.ok _) ?_))
    exact bodyPost_ret (ret_ag rfl _ rfl ((HRx _ _).out.setRow _) (St.ok _)) rfl ⟨rfl, (HBx _ _ _).out⟩
  · have HS2 := Lib.hid (set_row3 (v := v) HS.out)
    go_wp2_with (first | (refine wpList_ld rfl _ rfl rfl HS2.out (St.ok _) ?_) | (refine wpList_sw (cs := (stN s 4 v).c) rfl _ _ rfl rfl rfl (HRx _ _).out (St.sz _ _) (St.ok _) ?_))
    exact bodyPost_ret (ret_ag rfl _ rfl ((HRx _ _).out.setRow _) (St.ok _)) rfl ⟨rfl, (HBx _ _ _).out⟩
  · have HS2 := Lib.hid (set_row4 (v := v) HS.out)
    go_wp2_with (first | (refine wpList_ld rfl _ rfl rfl HS2.out (St.ok _) ?_) | (refine wpList_sw (cs := (stN s 5 v).c) rfl _ _ rfl rfl rfl (HRx _ _).out (St.sz _ _) (St.ok _) ?_))
    exact bodyPost_ret (ret_ag rfl _ rfl ((HRx _ _).out.setRow _) (St.ok _)) rfl ⟨rfl, (HBx _ _ _).out⟩
  · have HS2 := Lib.hid (set_row5 (v := v) HS.out)
    go_wp2_with (first | (refine wpList_ld rfl _ rfl rfl HS2.out (St.ok _) ?_) | (refine wpList_sw (cs := (stN s 6 v).c) rfl _ _ rfl rfl rfl (HRx _ _).out (St.sz _ _) (St.ok _) ?_))
    exact bodyPost_ret (ret_ag rfl _ rfl ((HRx _ _).out.setRow _) (St.ok _)) rfl ⟨rfl, (HBx _ _ _).out⟩
  · have HS2 := Lib.hid (set_row6 (v := v) HS.out)
    go_wp2_with (first | (refine wpList_ld rfl _ rfl rfl HS2.out (St.ok _) ?_) | (refine wpList_sw (cs := (stN s 8 v).c) rfl _ _ rfl rfl rfl (HRx _ _).out (St.sz _ _) (St.ok _) ?_))
    exact bodyPost_ret (ret_ag rfl _ rfl ((HRx _ _).out.setRow _) (St.ok _)) rfl ⟨rfl, (HBx _ _ _).out⟩
  · have HN := Lib.hid (hN s v)
    clear hN
    go_wp2_with (first | (refine wpList_ld rfl _ rfl rfl HS.out (St.ok _) ?_) | (refine wpList_sw (cs := s.c) rfl _ _ rfl rfl rfl HR.out (St.sz _ _) (St.ok _) ?_))
    exact bodyPost_ret (ret_ag rfl _ rfl (HR.out.setRow _) (St.ok _)) rfl ⟨by rw [HN.out], below_setRow HB.out _ _ (by omega)⟩
end Go.Proofs.YtooaajnkiokpnaaGreatDoor

namespace Go.Proofs.YtooaajnkiokpnaaGreatDoor
open Go.RowKit Go.WideShapes

theorem RdS.settG {w : World} {S : Nat → Prop} {A : Option Addr} {L : List (Nat × Nat)} (h : RdS w S A (enl sgcG L)) {i : Nat} (hi : i < L.length) : ∃ b q, A = some ⟨b, q, none⟩ ∧ S b ∧
    w.cell? ⟨b, q + i * 2, none⟩ = some (.int .u16 (L[i].1 : Int)) ∧ w.cell? ⟨b, q + i * 2 + 1, none⟩ = some (.int .u32 (L[i].2 : Int)) := by
  have hne : enl sgcG L ≠ [] := by
    intro e
    have := enl_length sgc_lenG L
    rw [e] at this
    simp at this
    omega
  obtain ⟨b, q, hA, hb, hcl⟩ := h hne
  have h0 := hcl (i * 2 + 0) _ (by rw [enl_at sgc_lenG hi (by omega)]; rfl)
  have h1 := hcl (i * 2 + 1) _ (by rw [enl_at sgc_lenG hi (by omega)]; rfl)
  exact ⟨b, q, hA, hb, by simpa using h0, by rw [Nat.add_assoc]; exact h1⟩
/-- A fault, held against none. -/
theorem ft_none (w : World) : (binOp .neq 29 (.agg (ftcG 0 0)) (.agg #[.int .u8 0, .int .u32 0])).run Tryz.prog w = .ok (.bool false) w := ft_neq 0 0 0 0 w
theorem ft_some {n : Nat} (h : n ≠ 0) (w : World) : (binOp .neq 29 (.agg (ftcG 1 n)) (.agg #[.int .u8 0, .int .u32 0])).run Tryz.prog w = .ok (.bool true) w := by
  refine (ft_neq 1 n 0 0 w).trans ?_
  rw [decide_eq_false h]
  rfl
theorem ftz : ftcG 0 0 = #[.int .u8 0, .int .u32 0] := rfl
attribute [local irreducible] St.c ftcG sec

/-- What lies in memory while Apply goes through the list. -/
structure ApI (w wr : World) (b6 : Nat) (s o : St) : Prop where
  r2 : Row wr w.heap.size 59 s.c
  r4 : Row wr (w.heap.size + 1) 59 zS.c
  r5 : Row wr (w.heap.size + 2) 29 (ftcG 0 0)
  r6 : Row wr b6 59 o.c
  hb : Below w.heap.size w wr
  h6 : b6 = w.heap.size + 3
theorem ApI.below {w wr w' : World} {b6 : Nat} {s o : St} (h : ApI w wr b6 s o) (hb : Below wr.heap.size wr w') : ApI w w' b6 s o :=
  ⟨h.r2.below hb h.r2.lt, h.r4.below hb h.r4.lt, h.r5.below hb h.r5.lt, h.r6.below hb h.r6.lt, h.hb.trans (hb.mono h.hb.size), h.h6⟩
theorem ApI.set {w wr : World} {b6 : Nat} {s o : St} (h : ApI w wr b6 s o) (o' : St) : ApI w (wr.setRow b6 o'.c) b6 s o' := by
  have := h.h6
  exact ⟨h.r2.setRow' (by omega) _, h.r4.setRow' (by omega) _, h.r5.setRow' (by omega) _, h.r6.setRow _, below_setRow h.hb _ _ (by omega), h.h6⟩
theorem row_draws {w : World} {g : Nat} {t : TypeId} {cs : Array Value} (h : Row w g t cs) (n : Nat) : Row (w.drewN n) g t cs := h
/-- What Apply leaves. -/
def ApPost (w : World) (r : St × Nat) (e : Ending) (w' : World) : Prop := e = .returned (.tuple #[.agg r.1.c, .agg (ftcG (if r.2 = 0 then 0 else 1) r.2)]) ∧ Below w.heap.size w w'
set_option maxRecDepth 100000 in
set_option maxHeartbeats 4000000 in
theorem apply_any (s : St) {A : Option Addr} {c : Nat} {l : List (Nat × Nat)} {w : World} (hr : RdS w (· < w.heap.size) A (enl sgcG l)) (hl : l.length ≤ 1000000000000) :
    Calls Tryz.prog 123 #[.agg s.c, .slice A l.length c] w (ApPost w (apN s s l)) := by
  have hz : zS.c = #[.int .u32 0, .bool false, .int .u32 0, .int .u32 0, .int .u32 0, .int .u32 0, .bool false] := by unfold St.c; rfl
  have hfz := ftz
  have H2 : Hid (Row (((w.alloc (.cells s.c 59)).alloc (.cells #[.int .u32 0, .bool false, .int .u32 0, .int .u32 0, .int .u32 0, .int .u32 0, .bool false] 59)).alloc (.cells #[.int .u8 0, .int .u32 0] 29)) w.heap.size 59 s.c) := ((Row.new w _ _).alloc _).alloc _
  have H4 : Hid (Row (((w.alloc (.cells s.c 59)).alloc (.cells #[.int .u32 0, .bool false, .int .u32 0, .int .u32 0, .int .u32 0, .int .u32 0, .bool false] 59)).alloc (.cells #[.int .u8 0, .int .u32 0] 29)) (w.heap.size + 1) 59 zS.c) := by show Row _ _ _ _; rw [hz]; exact (Row.made _ _ _ (by simp)).alloc _
  have H5 : Hid (Row (((w.alloc (.cells s.c 59)).alloc (.cells #[.int .u32 0, .bool false, .int .u32 0, .int .u32 0, .int .u32 0, .int .u32 0, .bool false] 59)).alloc (.cells #[.int .u8 0, .int .u32 0] 29)) (w.heap.size + 2) 29 (ftcG 0 0)) := by show Row _ _ _ _; rw [hfz]; exact Row.made _ _ _ (by simp)
  have HB : Hid (Below w.heap.size w (((w.alloc (.cells s.c 59)).alloc (.cells #[.int .u32 0, .bool false, .int .u32 0, .int .u32 0, .int .u32 0, .int .u32 0, .bool false] 59)).alloc (.cells #[.int .u8 0, .int .u32 0] 29))) := (((Below.refl _ _).alloc (Nat.le_refl _) _).alloc (by simp) _).alloc (by simp; omega) _
  have HZ : Hid ((((w.alloc (.cells s.c 59)).alloc (.cells #[.int .u32 0, .bool false, .int .u32 0, .int .u32 0, .int .u32 0, .int .u32 0, .bool false] 59)).alloc (.cells #[.int .u8 0, .int .u32 0] 29)).heap.size = w.heap.size + 3) := by show _ = _; simp
  have HR := Lib.hid hr
  have HFZ := Lib.hid hfz
  have HZC := Lib.hid hz
  clear hr hfz hz
  go_enter Tryz.func123, Tryz.ntmps123
  go_upto_region 1 with fail
  generalize (((w.alloc (.cells s.c 59)).alloc (.cells #[.int .u32 0, .bool false, .int .u32 0, .int .u32 0, .int .u32 0, .int .u32 0, .bool false] 59)).alloc (.cells #[.int .u8 0, .int .u32 0] 29)) = w1 at *
  have H6 : Hid (Row (w1.alloc (.cells #[.int .u32 0, .bool false, .int .u32 0, .int .u32 0, .int .u32 0, .int .u32 0, .bool false] 59)) w1.heap.size 59 zS.c) := by show Row _ _ _ _; rw [HZC.out]; exact Row.new w1 _ _
  go_upto_region 2 with (first | (refine wpList_ld rfl _ rfl rfl H2.out (St.ok _) ?_) | (refine wpList_sw (cs := s.c) rfl _ _ rfl rfl rfl H6.out (St.sz _ _) (St.ok _) ?_))
  have HI : Hid (ApI w ((w1.alloc (.cells #[.int .u32 0, .bool false, .int .u32 0, .int .u32 0, .int .u32 0, .int .u32 0, .bool false] 59)).setRow w1.heap.size s.c) w1.heap.size s s) := by
    have hzz := HZ.out
    have h1 : Below w1.heap.size w1 (w1.alloc (.cells #[.int .u32 0, .bool false, .int .u32 0, .int .u32 0, .int .u32 0, .int .u32 0, .bool false] 59)) := (Below.refl _ _).alloc (Nat.le_refl _) _
    exact ⟨(H2.out.below h1 H2.out.lt).setRow' (by omega) _, (H4.out.below h1 H4.out.lt).setRow' (by omega) _, (H5.out.below h1 H5.out.lt).setRow' (by omega) _, H6.out.setRow _, below_setRow (HB.out.trans (h1.mono HB.out.size)) _ _ (by omega), hzz⟩
  generalize (w1.alloc (.cells #[.int .u32 0, .bool false, .int .u32 0, .int .u32 0, .int .u32 0, .int .u32 0, .bool false] 59)).setRow w1.heap.size s.c = w2 at *
  generalize w1.heap.size = b6 at *
  clear H2 H4 H5 H6 HB HZ HZC
  have HA : Hid (apN s s l = apN s s (l.drop 0)) := by show _ = _; rw [List.drop_zero]
  go_upto_region 3 with fail
  go_loopw [13] (fun i wr => ∃ (k : Nat) (o : St), k ≤ l.length ∧ i = .int .i64 k ∧ Hid (ApI w wr b6 s o) ∧ Hid (apN s s l = apN s o (l.drop k)))
    (fun i _ => l.length - (intOf i).toNat)
  case atStart => exact ⟨0, s, Nat.zero_le _, rfl, HI, HA⟩
  case round =>
    clear HI HA
    obtain ⟨k, o, hk, rfl, HI, HA⟩ := hrel
    by_cases hlt : k < l.length
    · obtain ⟨b, q, rfl, hb, f0, f1⟩ := (HR.out.below HI.out.hb).settG hlt
      have k0 : (0 : Int) ≤ (k : Int) := by omega
      have k1 : (k : Int) < (l.length : Int) := by omega
      have HS := Lib.hid (@apN_step s o l k hlt)
      have HX := Lib.hid (@apN_stop s o l k hlt)
      generalize l[k].1 = i at *
      generalize l[k].2 = v at *
      have hck := check_any o i v
      have hst := set_any o i v
      have HC : Hid (Row (wr.alloc (.cells #[.int .u16 (i : Int), .int .u32 (v : Int)] 164)) wr.heap.size 164 (sec i v)) := by show Row _ _ _ _; have := Row.new wr 164 (sec i v); unfold sec at this ⊢; exact this
      have HI1 := Lib.hid (HI.out.below ((Below.refl _ _).alloc (Nat.le_refl wr.heap.size) (.cells #[.int .u16 (i : Int), .int .u32 (v : Int)] 164)))
      clear HI hb
      go_upto_region 5 with fail
      generalize wr.alloc (.cells #[.int .u16 (i : Int), .int .u32 (v : Int)] 164) = w3 at *
      generalize wr.heap.size = b8 at *
      clear f0 f1
      go_wp2_with (first | (refine wpList_ld rfl _ rfl rfl HI1.out.r6 (St.ok _) ?_) | (refine wpList_ld rfl _ rfl rfl HC.out (se_ok _ _) ?_))
      refine (hck _).mono ?_
      rintro e w4 ⟨rfl, hb4⟩
      have HI4 := Lib.hid (HI1.out.below hb4)
      have HC4 := Lib.hid (HC.out.below hb4 HC.out.lt)
      have HI5 := Lib.hid (HI4.out.below ((Below.refl _ _).alloc (Nat.le_refl w4.heap.size) (.cells #[.int .u8 0, .int .u32 0] 29)))
      have HC5 := Lib.hid (HC4.out.alloc (.cells #[.int .u8 0, .int .u32 0] 29))
      have HF5 : Hid (Row (w4.alloc (.cells #[.int .u8 0, .int .u32 0] 29)) w4.heap.size 29 (ftcG 0 0)) := by show Row _ _ _ _; rw [HFZ.out]; exact Row.new w4 _ _
      have HL5 : Hid (b8 < w4.heap.size ∧ b6 < w4.heap.size ∧ w.heap.size + 2 < w4.heap.size) := ⟨HC4.out.lt, HI4.out.r6.lt, HI4.out.r5.lt⟩
      clear hb4 hck HI1 HC HI4 HC4
      by_cases hn : wrN o i v = 0
      · have HSn := Lib.hid (HS.out hn)
        have hne := ft_none
        rw [hn]
        clear HS HX hn
        have HI6 : Hid (ApI w ((w4.alloc (.cells #[.int .u8 0, .int .u32 0] 29)).setRow w4.heap.size (ftcG 0 0)) b6 s o) := by
          have := HI5.out; have h5 := HL5.out; have h6 := this.h6
          exact ⟨this.r2.setRow' (by omega) _, this.r4.setRow' (by omega) _, this.r5.setRow' (by omega) _, this.r6.setRow' (by omega) _, below_setRow this.hb _ _ (by omega), h6⟩
        have HC6 := Lib.hid (HC5.out.setRow' (k := w4.heap.size) (by have := HL5.out; omega) (ftcG 0 0))
        have HF6 := Lib.hid (HF5.out.setRow (ftcG 0 0))
        clear HI5 HC5 
        go_upto_region 6 with (refine wpList_sw (cs := ftcG 0 0) rfl _ _ rfl rfl rfl HF5.out (ft_sz _ _ _ _) (ft_ok _ _) ?_)
        clear HF5
        generalize (w4.alloc (.cells #[.int .u8 0, .int .u32 0] 29)).setRow w4.heap.size (ftcG 0 0) = w6 at *
        generalize w4.heap.size = b9 at *
        go_wp2_with (first | (refine wpList_ld rfl _ rfl rfl HF6.out (ft_ok _ _) ?_) | (refine wpList_ld rfl _ rfl rfl HI6.out.r6 (St.ok _) ?_) | (refine wpList_ld rfl _ rfl rfl HC6.out (se_ok _ _) ?_))
        refine (hst _).mono ?_
        rintro e w7 ⟨rfl, hb7⟩
        have HI7 := Lib.hid (HI6.out.below hb7)
        have HI8 := Lib.hid (HI7.out.set (stN o i v))
        clear hb7 hst HI6 HC6 HF6 hne
        go_wp2_with (refine wpList_sw (cs := (stN o i v).c) rfl _ _ rfl rfl rfl HI7.out.r6 (St.sz _ _) (St.ok _) ?_)
        go_roundw
        case rel => exact ⟨k + 1, stN o i v, by omega, by go_num, HI8, HA.out.trans HSn.out⟩
        case measure => simp [intOf]; omega
      · have HXn := Lib.hid (HX.out hn)
        have hne := ft_some hn
        have HN := Lib.hid hn
        rw [if_neg hn]
        clear HS HX hn
        generalize wrN o i v = n at *
        have HI6 : Hid (ApI w ((w4.alloc (.cells #[.int .u8 0, .int .u32 0] 29)).setRow w4.heap.size (ftcG 1 n)) b6 s o) := by
          have := HI5.out; have h5 := HL5.out; have h6 := this.h6
          exact ⟨this.r2.setRow' (by omega) _, this.r4.setRow' (by omega) _, this.r5.setRow' (by omega) _, this.r6.setRow' (by omega) _, below_setRow this.hb _ _ (by omega), h6⟩
        have HF6 := Lib.hid (HF5.out.setRow (ftcG 1 n))
        clear HI5 HC5 
        go_upto_region 6 with (refine wpList_sw (cs := ftcG 1 n) rfl _ _ rfl rfl rfl HF5.out (ft_sz _ _ _ _) (ft_ok _ _) ?_)
        clear HF5
        generalize (w4.alloc (.cells #[.int .u8 0, .int .u32 0] 29)).setRow w4.heap.size (ftcG 1 n) = w6 at *
        generalize w4.heap.size = b9 at *
        go_wp2_with (refine wpList_ld rfl _ rfl rfl HF6.out (ft_ok _ _) ?_)
        refine wp_region_held_drew (S := fun w' => Row w' w.heap.size 59 s.c ∧ Row w' b9 29 (ftcG 1 n)) (by kernel_rfl) ⟨HI6.out.r2, HF6.out⟩ (fun hHeld => ?_)
        refine wpAnyH_take (i := 0) (v := _) rfl (by kernel_rfl) (by kernel_rfl) (by kernel_rfl) (fun _ _ _ h => h) (yields_ld (by rfl) _ rfl rfl (St.ok _) (fun _ hSw => hSw.1)) (by assumption) ?rest0w1
        try simp only [Act.put, List.getElem_toArray, List.getElem_cons_zero, List.getElem_cons_succ, List.setIfInBounds_toArray, List.set_cons_zero, List.set_cons_succ]
        refine wpAnyH_take (i := 1) (v := _) rfl (by kernel_rfl) (by kernel_rfl) (by kernel_rfl) (fun _ _ _ h => h) (yields_ld (by rfl) _ rfl rfl (ft_ok _ _) (fun _ hSw => hSw.2)) (by assumption) ?rest1w2
        try simp only [Act.put, List.getElem_toArray, List.getElem_cons_zero, List.getElem_cons_succ, List.setIfInBounds_toArray, List.set_cons_zero, List.set_cons_succ]
        refine wpAnyH_ready (rs := [2]) (by kernel_rfl) (by simp) ?_
        refine AllReadyH.cons rfl (fun K hK => ?_) AllReadyH.nil
        refine step_sw (cs := s.c) rfl (.tmp 4) (.tmp 23) rfl rfl rfl (row_draws HI6.out.r4 1) (St.sz _ _) (St.ok _) ?_
        refine hK.out _ _ ⟨hHeld.1.setRow' (by omega) _, hHeld.2.setRow' (by have := HL5.out; omega) _⟩ (fun hHeld => ?_)
        clear hK K
        try simp only [Act.put, List.getElem_toArray, List.getElem_cons_zero, List.getElem_cons_succ, List.setIfInBounds_toArray, List.set_cons_zero, List.set_cons_succ]
        refine wpAnyH_ready (rs := [3]) (by kernel_rfl) (by simp) ?_
        refine AllReadyH.cons rfl (fun K hK => ?_) AllReadyH.nil
        refine step_sw (cs := ftcG 1 n) rfl (.tmp 5) (.tmp 24) rfl rfl rfl ((row_draws HI6.out.r5 1).setRow' (k := w.heap.size + 1) (by omega) s.c) (ft_sz _ _ _ _) (ft_ok _ _) ?_
        refine hK.out _ _ ⟨hHeld.1.setRow' (by omega) _, hHeld.2.setRow' (by have := HL5.out; omega) _⟩ (fun hHeld => ?_)
        clear hK K
        try simp only [Act.put, List.getElem_toArray, List.getElem_cons_zero, List.getElem_cons_succ, List.setIfInBounds_toArray, List.set_cons_zero, List.set_cons_succ]
        refine wpAnyH_done (by kernel_rfl) ?_ _
        go_wp2_with fail
        exact bodyPost_ret (ret_ag2 rfl _ rfl (((row_draws HI6.out.r4 1).setRow s.c).setRow' (k := w.heap.size + 2) (by omega) (ftcG 1 n)) (St.ok _) rfl (((row_draws HI6.out.r5 1).setRow' (k := w.heap.size + 1) (by omega) s.c).setRow (ftcG 1 n)) (ft_ok _ _)) rfl
          ⟨by rw [HA.out, HXn.out, if_neg HN.out], below_setRow (below_setRow (below_dN HI6.out.hb 1) _ _ (by omega)) _ _ (by omega)⟩
    · have HE : Hid (apN s o (l.drop k) = (o, 0)) := by show _ = _; rw [show k = l.length by omega]; exact apN_end
      have HR4 := Lib.hid (HI.out.r4.setRow o.c)
      have HR5 := Lib.hid (HI.out.r5.setRow' (k := w.heap.size + 1) (by omega) o.c)
      go_wp2_with (first | (refine wpList_ld rfl _ rfl rfl HI.out.r6 (St.ok _) ?_) | (refine wpList_sw (cs := o.c) rfl _ _ rfl rfl rfl HI.out.r4 (St.sz _ _) (St.ok _) ?_) | (refine wpList_sw (cs := ftcG 0 0) rfl _ _ rfl rfl (by rw [HFZ.out]; rfl) HR5.out (ft_sz _ _ _ _) (ft_ok _ _) ?_))
      exact bodyPost_ret (ret_ag2 rfl _ rfl (HR4.out.setRow' (k := w.heap.size + 2) (by omega) (ftcG 0 0)) (St.ok _) rfl (HR5.out.setRow (ftcG 0 0)) (ft_ok _ _)) rfl
        ⟨by rw [HA.out, HE.out]; rfl, below_setRow (below_setRow HI.out.hb _ _ (by omega)) _ _ (by omega)⟩
end Go.Proofs.YtooaajnkiokpnaaGreatDoor

namespace Go.Proofs.YtooaajnkiokpnaaGreatDoor
open Go.RowKit Go.WideShapes

/-- A setting's cells, out of a list's block. -/
theorem se_range {w : World} {b q i v : Nat} (h0 : w.cell? ⟨b, q, none⟩ = some (.int .u16 (i : Int))) (h1 : w.cell? ⟨b, q + 1, none⟩ = some (.int .u32 (v : Int))) : w.rangeAt b q (sec i v).toList := by
  intro j u hj
  match j, hj with
  | 0, hj =>
    have hj' : some (Value.int .u16 (i : Int)) = some u := hj
    rw [Nat.add_zero, h0, hj']
  | 1, hj =>
    have hj' : some (Value.int .u32 (v : Int)) = some u := hj
    rw [h1, hj']
  | j + 2, hj => simp [sec] at hj
theorem range_below {w w' : World} {b q : Nat} {cs : List Value} (h : w.rangeAt b q cs) (hb : Below w.heap.size w w') (hlt : b < w.heap.size) : w'.rangeAt b q cs := fun j v hj => (hb.cell (p := ⟨b, q + j, none⟩) hlt).trans (h j v hj)
theorem ne99 {n : Nat} (h : n = 0 ∨ n = 1 ∨ n = 3) (h0 : n ≠ 0) : (((cdN n : Nat) : Int) != 99) = true := by rcases h with rfl | rfl | rfl <;> first | exact absurd rfl h0 | rfl
/-- What lies in memory while it goes through the list. -/
structure RaI (w wr : World) (b6 : Nat) (s o : St) : Prop where
  r2 : Row wr w.heap.size 59 s.c
  r4 : Row wr (w.heap.size + 1) 59 zS.c
  r6 : Row wr b6 59 o.c
  hb : Below w.heap.size w wr
  h6 : b6 = w.heap.size + 2
theorem RaI.below {w wr w' : World} {b6 : Nat} {s o : St} (h : RaI w wr b6 s o) (hb : Below wr.heap.size wr w') : RaI w w' b6 s o :=
  ⟨h.r2.below hb h.r2.lt, h.r4.below hb h.r4.lt, h.r6.below hb h.r6.lt, h.hb.trans (hb.mono h.hb.size), h.h6⟩
theorem RaI.set {w wr : World} {b6 : Nat} {s o : St} (h : RaI w wr b6 s o) (o' : St) : RaI w (wr.setRow b6 o'.c) b6 s o' := by
  have := h.h6
  exact ⟨h.r2.setRow' (by omega) _, h.r4.setRow' (by omega) _, h.r6.setRow _, below_setRow h.hb _ _ (by omega), h.h6⟩
theorem RaI.drewN {w wr : World} {b6 : Nat} {s o : St} (h : RaI w wr b6 s o) (n : Nat) : RaI w (wr.drewN n) b6 s o := ⟨h.r2, h.r4, h.r6, below_dN h.hb n, h.h6⟩
attribute [local irreducible] St.c ftcG sec

/-- What it leaves. -/
def RaPost (w : World) (r : St × Nat) (e : Ending) (w' : World) : Prop := e = .returned (.tuple #[.agg r.1.c, .int .i64 (cdN r.2 : Nat)]) ∧ Below w.heap.size w w'
end Go.Proofs.YtooaajnkiokpnaaGreatDoor

namespace Go.Proofs.YtooaajnkiokpnaaGreatDoor
open Go.RowKit Go.WideShapes

def s100 : St := ⟨4096, true, 4294967295, 100, 16384, 4294967295, false⟩
theorem ap_100 : apN begS begS [(4, 100)] = (s100, 0) := by decide
theorem ap_22 : apN begS begS [(2, 2)] = (begS, 1) := by decide
theorem one_read {w : World} {i v : Nat} : RdS (w.alloc (.cells #[.int .u16 (i : Int), .int .u32 (v : Int)] 164)) (· < (w.alloc (.cells #[.int .u16 (i : Int), .int .u32 (v : Int)] 164)).heap.size) (some ⟨w.heap.size, 0, none⟩) (enl sgcG [(i, v)]) := fun _ =>
  ⟨w.heap.size, 0, rfl, by simp, fun j u hj => by
    rw [Nat.zero_add]
    exact (Row.new w 164 #[.int .u16 (i : Int), .int .u32 (v : Int)]).cell (by rw [enl_one] at hj; simpa [sgcG] using hj)⟩
theorem ft_00G (w : World) : (binOp .eql 29 (.agg (ftcG 0 0)) (.agg #[.int .u8 0, .int .u32 0])).run Tryz.prog w = .ok (.bool true) w := ft_eql 0 0 0 0 w
theorem ft_11 (w : World) : (binOp .eql 29 (.agg (ftcG 1 1)) (.agg #[.int .u8 1, .int .u32 1])).run Tryz.prog w = .ok (.bool true) w := ft_eql 1 1 1 1 w
theorem ft_12 (w : World) : (binOp .eql 29 (.agg (ftcG 1 2)) (.agg #[.int .u8 1, .int .u32 2])).run Tryz.prog w = .ok (.bool true) w := ft_eql 1 2 1 2 w
theorem zc : zS.c = #[.int .u32 0, .bool false, .int .u32 0, .int .u32 0, .int .u32 0, .int .u32 0, .bool false] := rfl
/-- Two variables for what Apply hands back: made, and stored into. -/
theorem two_vars (w : World) (x : St) (s c : Nat) : ∃ w' , ((((w.alloc (.cells #[.int .u32 0, .bool false, .int .u32 0, .int .u32 0, .int .u32 0, .int .u32 0, .bool false] 59)).alloc (.cells #[.int .u8 0, .int .u32 0] 29)).setRow w.heap.size x.c).setRow (w.heap.size + 1) (ftcG s c)) = w' ∧
    Row ((w.alloc (.cells #[.int .u32 0, .bool false, .int .u32 0, .int .u32 0, .int .u32 0, .int .u32 0, .bool false] 59)).alloc (.cells #[.int .u8 0, .int .u32 0] 29)) w.heap.size 59 zS.c ∧
    Row (((w.alloc (.cells #[.int .u32 0, .bool false, .int .u32 0, .int .u32 0, .int .u32 0, .int .u32 0, .bool false] 59)).alloc (.cells #[.int .u8 0, .int .u32 0] 29)).setRow w.heap.size x.c) (w.heap.size + 1) 29 (ftcG 0 0) ∧
    Row w' w.heap.size 59 x.c ∧ Row w' (w.heap.size + 1) 29 (ftcG s c) ∧ Below w.heap.size w w' ∧ w'.heap.size = w.heap.size + 2 := by
  have h1 : Row ((w.alloc (.cells #[.int .u32 0, .bool false, .int .u32 0, .int .u32 0, .int .u32 0, .int .u32 0, .bool false] 59)).alloc (.cells #[.int .u8 0, .int .u32 0] 29)) w.heap.size 59 zS.c := by rw [zc]; exact (Row.new w _ _).alloc _
  have h2 : Row ((w.alloc (.cells #[.int .u32 0, .bool false, .int .u32 0, .int .u32 0, .int .u32 0, .int .u32 0, .bool false] 59)).alloc (.cells #[.int .u8 0, .int .u32 0] 29)) (w.heap.size + 1) 29 (ftcG 0 0) := by rw [ftz]; exact Row.made _ _ _ (by simp)
  have hb : Below w.heap.size w ((w.alloc (.cells #[.int .u32 0, .bool false, .int .u32 0, .int .u32 0, .int .u32 0, .int .u32 0, .bool false] 59)).alloc (.cells #[.int .u8 0, .int .u32 0] 29)) := ((Below.refl _ _).alloc (Nat.le_refl _) _).alloc (by simp) _
  exact ⟨_, rfl, h1, h2.setRow' (by omega) _, (h1.setRow _).setRow' (by omega) _, (h2.setRow' (by omega) _).setRow _, below_setRow (below_setRow hb _ _ (by omega)) _ _ (by omega), by simp⟩
attribute [local irreducible] St.c ftcG sec

end Go.Proofs.YtooaajnkiokpnaaGreatDoor

namespace Go.Proofs.YtooaajnkiokpnaaGreatDoor
open Go.RowKit Go.WideShapes

/-- A side's cells. -/
def sdc (n : St) (v : Value) : Array Value := #[.int .u32 n.tb, .bool n.pu, .int .u32 n.st, .int .u32 n.wn, .int .u32 n.fr, .int .u32 n.hd, .bool n.co, v]
/-- A side in block g: what is in force, and those that wait. -/
structure Sd (w : World) (base g : Nat) (n : St) (v : Value) (L : List St) : Prop where
  row : Row w g 157 (sdc n v)
  own : OwS w base 59 7 v L.length (enl St.l L)
  gl : base ≤ g
  ne : v.ownBlock ≠ some g
/-- The blocks that a side has. -/
def sb (g : Nat) (v : Value) : Nat → Prop := fun k => k = g ∨ ob v k
section
variable {w w' : World} {base g : Nat} {n : St} {v : Value} {L : List St}
theorem Sd.keep (h : Sd w base g n v L) (h1 : w'.heap[g]? = w.heap[g]?) (h2 : ∀ k, v.ownBlock = some k → w'.heap[k]? = w.heap[k]?) : Sd w' base g n v L := ⟨h1.trans h.row, h.own.keep h2, h.gl, h.ne⟩
theorem Sd.below (h : Sd w base g n v L) (hb : Below w.heap.size w w') : Sd w' base g n v L := h.keep (hb.block g h.row.lt) fun k hk => hb.block k (h.own.lt k hk).2
theorem Sd.fs {S : Nat → Prop} (h : Sd w base g n v L) (hf : Fs S w w') (hS : ∀ k, sb g v k → ¬ S k) : Sd w' base g n v L :=
  h.keep (hf.block g h.row.lt (hS g (.inl rfl))) fun k hk => hf.block k (h.own.lt k hk).2 (hS k (.inr hk))
theorem Sd.lts (h : Sd w base g n v L) : ∀ k, sb g v k → base ≤ k ∧ k < w.heap.size := fun k hk => by
  rcases hk with rfl | hk
  · exact ⟨h.gl, h.row.lt⟩
  · exact h.own.lt k hk
theorem Sd.now (h : Sd w base g n v L) : w.rangeAt g 0 n.c.toList := h.row.range 0 n.c.toList (fun j u hj => by
  rw [Nat.zero_add]
  have hj' : n.l[j]? = some u := hj
  have hlt : j < 7 := (List.getElem?_eq_some_iff.1 hj').1
  match j, hlt with
  | 0, _ => exact hj'
  | 1, _ => exact hj'
  | 2, _ => exact hj'
  | 3, _ => exact hj'
  | 4, _ => exact hj'
  | 5, _ => exact hj'
  | 6, _ => exact hj')
theorem Sd.sent (h : Sd w base g n v L) : w.cell? ⟨g, 7, none⟩ = some v := h.row.cell rfl
theorem Sd.shape (h : Sd w base g n v L) : ∃ A c, v = .slice A L.length c := by
  obtain ⟨A, c, h1, _⟩ := h.own.shape
  exact ⟨A, c, h1⟩
end
theorem st_llen (x : St) : x.l.length = 7 := rfl
attribute [local irreducible] St.c ftcG sec

set_option maxRecDepth 100000 in
set_option maxHeartbeats 1000000 in
theorem new_anyG (w : World) : Calls Tryz.prog 53 #[] w fun e w' => ∃ g, e = .returned (.pointer (some ⟨g, 0, none⟩)) ∧ Sd w' w.heap.size g begS (.slice none 0 0) [] ∧ Below w.heap.size w w' := by
  go_enter Tryz.func53, Tryz.ntmps53
  go_wp2_with fail
  refine (begi_any _).mono ?_
  rintro e w1 ⟨rfl, hb1⟩
  have HB := Lib.hid hb1
  clear hb1
  go_wp2_with (refine wpList_build_is rfl 157 _ rfl (sdc begS (.slice none 0 0)) (by kernel_rfl) ?_)
  go_ret
  exact ⟨w1.heap.size, rfl, ⟨Row.new w1 _ _, OwS.nil, HB.out.size, by simp [Value.ownBlock]⟩, HB.out.alloc HB.out.size _⟩
set_option maxRecDepth 100000 in
theorem waits_nil (w : World) : Calls Tryz.prog 160 #[.pointer none] w fun e w' => e = .returned (.int .i64 0) ∧ w' = w := by
  go_enter Tryz.func160, Tryz.ntmps160
  go_wp2
  go_ret
  exact ⟨rfl, rfl⟩
set_option maxRecDepth 100000 in
theorem waits_any {w : World} {base g : Nat} {n : St} {v : Value} {L : List St} (h : Sd w base g n v L) : Calls Tryz.prog 160 #[.pointer (some ⟨g, 0, none⟩)] w fun e w' => e = .returned (.int .i64 L.length) ∧ w' = w := by
  obtain ⟨A, c, rfl⟩ := h.shape
  have hc := h.sent
  clear h
  go_enter Tryz.func160, Tryz.ntmps160
  go_wp2
  go_ret
  exact ⟨rfl, rfl⟩
set_option maxRecDepth 100000 in
set_option maxHeartbeats 1000000 in
theorem now_nil (w : World) : Calls Tryz.prog 161 #[.pointer none] w fun e w' => e = .returned (.agg begS.c) ∧ Below w.heap.size w w' := by
  have hz : zS.c = #[.int .u32 0, .bool false, .int .u32 0, .int .u32 0, .int .u32 0, .int .u32 0, .bool false] := by unfold St.c; rfl
  have HR : Hid (Row (w.alloc (.cells #[.int .u32 0, .bool false, .int .u32 0, .int .u32 0, .int .u32 0, .int .u32 0, .bool false] 59)) w.heap.size 59 zS.c) := by show Row _ _ _ _; rw [hz]; exact Row.new w _ _
  have HB : Hid (Below w.heap.size w (w.alloc (.cells #[.int .u32 0, .bool false, .int .u32 0, .int .u32 0, .int .u32 0, .int .u32 0, .bool false] 59))) := (Below.refl _ _).alloc (Nat.le_refl _) _
  clear hz
  go_enter Tryz.func161, Tryz.ntmps161
  go_wp2_with fail
  refine (begi_any _).mono ?_
  rintro e w1 ⟨rfl, hb1⟩
  have HR1 := Lib.hid (HR.out.below hb1 HR.out.lt)
  have HB1 := Lib.hid (HB.out.trans (hb1.mono HB.out.size))
  clear hb1 HR HB
  go_wp2_with (refine wpList_sw (cs := begS.c) rfl _ _ rfl rfl rfl HR1.out (St.sz _ _) (St.ok _) ?_)
  exact bodyPost_ret (ret_ag rfl _ rfl (HR1.out.setRow _) (St.ok _)) rfl ⟨rfl, below_setRow HB1.out _ _ (Nat.le_refl _)⟩
set_option maxRecDepth 100000 in
set_option maxHeartbeats 1000000 in
theorem now_any {w : World} {base g : Nat} {n : St} {v : Value} {L : List St} (h : Sd w base g n v L) : Calls Tryz.prog 161 #[.pointer (some ⟨g, 0, none⟩)] w fun e w' => e = .returned (.agg n.c) ∧ Below w.heap.size w w' := by
  have hz : zS.c = #[.int .u32 0, .bool false, .int .u32 0, .int .u32 0, .int .u32 0, .int .u32 0, .bool false] := by unfold St.c; rfl
  have HR : Hid (Row (w.alloc (.cells #[.int .u32 0, .bool false, .int .u32 0, .int .u32 0, .int .u32 0, .int .u32 0, .bool false] 59)) w.heap.size 59 zS.c) := by show Row _ _ _ _; rw [hz]; exact Row.new w _ _
  have hb : Below w.heap.size w (w.alloc (.cells #[.int .u32 0, .bool false, .int .u32 0, .int .u32 0, .int .u32 0, .int .u32 0, .bool false] 59)) := (Below.refl _ _).alloc (Nat.le_refl _) _
  have HN := Lib.hid (h.below hb).now
  have HB := Lib.hid hb
  clear hz hb h
  go_enter Tryz.func161, Tryz.ntmps161
  go_wp2_with (first | (refine wpList_ldm (cs := n.c) rfl _ rfl rfl HN.out (St.ok _) ?_) | (refine wpList_sw (cs := n.c) rfl _ _ rfl rfl rfl HR.out (St.sz _ _) (St.ok _) ?_))
  exact bodyPost_ret (ret_ag rfl _ rfl (HR.out.setRow _) (St.ok _)) rfl ⟨rfl, below_setRow HB.out _ _ (Nat.le_refl _)⟩
set_option maxRecDepth 100000 in
set_option maxHeartbeats 1000000 in
theorem last_nil (w : World) : Calls Tryz.prog 124 #[.pointer none] w fun e w' => e = .returned (.agg begS.c) ∧ Below w.heap.size w w' := by
  have hz : zS.c = #[.int .u32 0, .bool false, .int .u32 0, .int .u32 0, .int .u32 0, .int .u32 0, .bool false] := by unfold St.c; rfl
  have HR : Hid (Row (w.alloc (.cells #[.int .u32 0, .bool false, .int .u32 0, .int .u32 0, .int .u32 0, .int .u32 0, .bool false] 59)) w.heap.size 59 zS.c) := by show Row _ _ _ _; rw [hz]; exact Row.new w _ _
  have HB : Hid (Below w.heap.size w (w.alloc (.cells #[.int .u32 0, .bool false, .int .u32 0, .int .u32 0, .int .u32 0, .int .u32 0, .bool false] 59))) := (Below.refl _ _).alloc (Nat.le_refl _) _
  clear hz
  go_enter Tryz.func124, Tryz.ntmps124
  go_wp2_with fail
  refine (waits_nil _).mono ?_
  rintro e w1 ⟨rfl, rfl⟩
  go_wp2_with fail
  refine (now_nil _).mono ?_
  rintro e w1 ⟨rfl, hb1⟩
  have HR1 := Lib.hid (HR.out.below hb1 HR.out.lt)
  have HB1 := Lib.hid (HB.out.trans (hb1.mono HB.out.size))
  clear hb1 HR HB
  go_wp2_with (refine wpList_sw (cs := begS.c) rfl _ _ rfl rfl rfl HR1.out (St.sz _ _) (St.ok _) ?_)
  exact bodyPost_ret (ret_ag rfl _ rfl (HR1.out.setRow _) (St.ok _)) rfl ⟨rfl, below_setRow HB1.out _ _ (Nat.le_refl _)⟩
set_option maxRecDepth 100000 in
set_option maxHeartbeats 1000000 in
theorem last_any {w : World} {base g : Nat} {n : St} {v : Value} {L : List St} (h : Sd w base g n v L) (hl : L.length ≤ 1000000) : Calls Tryz.prog 124 #[.pointer (some ⟨g, 0, none⟩)] w fun e w' => e = .returned (.agg (lastN n L).c) ∧ Below w.heap.size w w' := by
  have hz : zS.c = #[.int .u32 0, .bool false, .int .u32 0, .int .u32 0, .int .u32 0, .int .u32 0, .bool false] := by unfold St.c; rfl
  have HR : Hid (Row (w.alloc (.cells #[.int .u32 0, .bool false, .int .u32 0, .int .u32 0, .int .u32 0, .int .u32 0, .bool false] 59)) w.heap.size 59 zS.c) := by show Row _ _ _ _; rw [hz]; exact Row.new w _ _
  have hb : Below w.heap.size w (w.alloc (.cells #[.int .u32 0, .bool false, .int .u32 0, .int .u32 0, .int .u32 0, .int .u32 0, .bool false] 59)) := (Below.refl _ _).alloc (Nat.le_refl _) _
  have H := Lib.hid (h.below hb)
  have HB := Lib.hid hb
  clear hz hb h
  by_cases h0 : L.length = 0
  · have hL : L = [] := List.eq_nil_of_length_eq_zero h0
    subst hL
    clear h0
    rw [lastN_nil]
    go_enter Tryz.func124, Tryz.ntmps124
    go_wp2_with fail
    refine (waits_any H.out).mono ?_
    rintro e w1 ⟨rfl, rfl⟩
    go_wp2_with fail
    refine (now_any H.out).mono ?_
    rintro e w1 ⟨rfl, hb1⟩
    have HR1 := Lib.hid (HR.out.below hb1 HR.out.lt)
    have HB1 := Lib.hid (HB.out.trans (hb1.mono HB.out.size))
    clear hb1 HR HB H
    go_wp2_with (refine wpList_sw (cs := n.c) rfl _ _ rfl rfl rfl HR1.out (St.sz _ _) (St.ok _) ?_)
    exact bodyPost_ret (ret_ag rfl _ rfl (HR1.out.setRow _) (St.ok _)) rfl ⟨rfl, below_setRow HB1.out _ _ (Nat.le_refl _)⟩
  · have hpos : 0 < L.length := by omega
    rw [lastN_at n hpos]
    obtain ⟨A, c, rfl⟩ := H.out.shape
    have hs := H.out.sent
    obtain ⟨b, q, rfl, _, hrg⟩ := H.out.own.reads.elem st_llen (i := L.length - 1) (by omega) (by omega)
    have hw := waits_any H.out
    generalize L[L.length - 1]'(by omega) = x at *
    generalize L.length = m at *
    obtain ⟨k, rfl⟩ : ∃ k, m = k + 1 := ⟨m - 1, by omega⟩
    rw [Nat.add_sub_cancel] at hrg
    rw [← St.cl x] at hrg
    have HX := Lib.hid hrg
    have e0 : (((k + 1 : Nat) : Int) == 0) = false := nat_eq (k + 1) 0 |>.trans (decide_eq_false (by omega))
    have e1 : (((k + 1 : Nat) : Int) - 1) = (k : Int) := by omega
    have k0 : (0 : Int) ≤ (k : Int) := by omega
    have k1 : (k : Int) < ((k + 1 : Nat) : Int) := by omega
    clear hrg h0 hpos H
    go_enter Tryz.func124, Tryz.ntmps124
    go_wp2_with fail
    refine hw.mono ?_
    rintro e w1 ⟨rfl, rfl⟩
    go_wp2_with (first | (refine wpList_ldm (cs := x.c) rfl _ rfl rfl HX.out (St.ok _) ?_) | (refine wpList_sw (cs := x.c) rfl _ _ rfl rfl rfl HR.out (St.sz _ _) (St.ok _) ?_))
    exact bodyPost_ret (ret_ag rfl _ rfl (HR.out.setRow _) (St.ok _)) rfl ⟨rfl, below_setRow HB.out _ _ (Nat.le_refl _)⟩
end Go.Proofs.YtooaajnkiokpnaaGreatDoor

namespace Go.Proofs.YtooaajnkiokpnaaGreatDoor
open Go.RowKit Go.WideShapes

theorem st_refl (x : St) (w : World) : (binOp .eql 59 (.agg x.c) (.agg x.c)).run Tryz.prog w = .ok (.bool true) w := by rw [st_eql, decide_eq_true rfl]
theorem ft_refl (s c : Nat) (w : World) : (binOp .eql 29 (.agg (ftcG s c)) (.agg (ftcG s c))).run Tryz.prog w = .ok (.bool true) w := by rw [ft_eql, decide_eq_true rfl, decide_eq_true rfl]; rfl
/-- One variable for settings: made, and stored into. -/
theorem one_var (w : World) (x : St) : ∃ w', ((w.alloc (.cells #[.int .u32 0, .bool false, .int .u32 0, .int .u32 0, .int .u32 0, .int .u32 0, .bool false] 59)).setRow w.heap.size x.c) = w' ∧
    Row (w.alloc (.cells #[.int .u32 0, .bool false, .int .u32 0, .int .u32 0, .int .u32 0, .int .u32 0, .bool false] 59)) w.heap.size 59 zS.c ∧ Row w' w.heap.size 59 x.c ∧ Below w.heap.size w w' ∧ w'.heap.size = w.heap.size + 1 := by
  have h1 : Row (w.alloc (.cells #[.int .u32 0, .bool false, .int .u32 0, .int .u32 0, .int .u32 0, .int .u32 0, .bool false] 59)) w.heap.size 59 zS.c := by rw [zc]; exact Row.new w _ _
  exact ⟨_, rfl, h1, h1.setRow _, below_setRow ((Below.refl _ _).alloc (Nat.le_refl _) _) _ _ (by omega), by simp⟩
attribute [local irreducible] St.c ftcG sec

end Go.Proofs.YtooaajnkiokpnaaGreatDoor

namespace Go.Proofs.YtooaajnkiokpnaaGreatDoor
open Go.RowKit Go.WideShapes

/-- The two results' variables, as they are made. -/
theorem two_res (w : World) : Row ((w.alloc (.cells #[.int .u32 0, .bool false, .int .u32 0, .int .u32 0, .int .u32 0, .int .u32 0, .bool false] 59)).alloc (.cells #[.int .u8 0, .int .u32 0] 29)) w.heap.size 59 zS.c ∧
    Row ((w.alloc (.cells #[.int .u32 0, .bool false, .int .u32 0, .int .u32 0, .int .u32 0, .int .u32 0, .bool false] 59)).alloc (.cells #[.int .u8 0, .int .u32 0] 29)) (w.heap.size + 1) 29 (ftcG 0 0) ∧
    Below w.heap.size w ((w.alloc (.cells #[.int .u32 0, .bool false, .int .u32 0, .int .u32 0, .int .u32 0, .int .u32 0, .bool false] 59)).alloc (.cells #[.int .u8 0, .int .u32 0] 29)) ∧
    ((w.alloc (.cells #[.int .u32 0, .bool false, .int .u32 0, .int .u32 0, .int .u32 0, .int .u32 0, .bool false] 59)).alloc (.cells #[.int .u8 0, .int .u32 0] 29)).heap.size = w.heap.size + 2 := by
  refine ⟨by rw [zc]; exact (Row.new w _ _).alloc _, by rw [ftz]; exact Row.made _ _ _ (by simp), ((Below.refl _ _).alloc (Nat.le_refl _) _).alloc (by simp) _, by simp⟩
theorem fault_var (w : World) : Row (w.alloc (.cells #[.int .u8 0, .int .u32 0] 29)) w.heap.size 29 (ftcG 0 0) ∧ Below w.heap.size w (w.alloc (.cells #[.int .u8 0, .int .u32 0] 29)) ∧ (w.alloc (.cells #[.int .u8 0, .int .u32 0] 29)).heap.size = w.heap.size + 1 := by
  refine ⟨by rw [ftz]; exact Row.new w _ _, (Below.refl _ _).alloc (Nat.le_refl _) _, by simp⟩
attribute [local irreducible] St.c ftcG sec

set_option maxRecDepth 100000 in
set_option maxHeartbeats 2000000 in
theorem ack_nil (w : World) : Calls Tryz.prog 136 #[.pointer none] w fun e w' => e = .returned (.tuple #[.agg begS.c, .agg (ftcG 1 2)]) ∧ Below w.heap.size w w' := by
  obtain ⟨r2, r3, rb, rs⟩ := two_res w
  have H2 := Lib.hid r2
  have H3 := Lib.hid r3
  have HB := Lib.hid rb
  clear r2 r3 rb rs
  go_enter Tryz.func136, Tryz.ntmps136
  go_wp2_with fail
  refine (begi_any _).mono ?_
  rintro e w1 ⟨rfl, hb1⟩
  have H21 := Lib.hid (H2.out.below hb1 H2.out.lt)
  have H31 := Lib.hid (H3.out.below hb1 H3.out.lt)
  have HB1 := Lib.hid (HB.out.trans (hb1.mono HB.out.size))
  clear hb1 H2 H3 HB
  go_wp2_with fail
  refine (connFault_anyG 2 _).mono ?_
  rintro e w2 ⟨rfl, hb2⟩
  have H22 := Lib.hid (H21.out.below hb2 H21.out.lt)
  have H32 := Lib.hid ((H31.out.below hb2 H31.out.lt).setRow' (k := w.heap.size) (by omega) begS.c)
  have HB2 := Lib.hid (HB1.out.trans (hb2.mono HB1.out.size))
  clear hb2 H21 H31 HB1
  go_wp2_with (first | (refine wpList_sw (cs := begS.c) rfl _ _ rfl rfl rfl H22.out (St.sz _ _) (St.ok _) ?_) | (refine wpList_sw (cs := ftcG 1 2) rfl _ _ rfl rfl rfl H32.out (ft_sz _ _ _ _) (ft_ok _ _) ?_))
  exact bodyPost_ret (ret_ag2 rfl _ rfl ((H22.out.setRow _).setRow' (k := w.heap.size + 1) (by omega) _) (St.ok _) rfl (H32.out.setRow _) (ft_ok _ _)) rfl ⟨rfl, below_setRow (below_setRow HB2.out _ _ (Nat.le_refl _)) _ _ (by omega)⟩
set_option maxRecDepth 100000 in
set_option maxHeartbeats 2000000 in
theorem send_nil (x : Value) (w : World) : Calls Tryz.prog 89 #[.pointer none, x] w fun e w' => e = .returned (.agg (ftcG 1 2)) ∧ Below w.heap.size w w' := by
  obtain ⟨r2, rb, rs⟩ := fault_var w
  have H2 := Lib.hid r2
  have HB := Lib.hid rb
  clear r2 rb rs
  go_enter Tryz.func89, Tryz.ntmps89
  go_wp2_with fail
  refine (connFault_anyG 2 _).mono ?_
  rintro e w2 ⟨rfl, hb2⟩
  have H22 := Lib.hid (H2.out.below hb2 H2.out.lt)
  have HB2 := Lib.hid (HB.out.trans (hb2.mono HB.out.size))
  clear hb2 H2 HB
  go_wp2_with (refine wpList_sw (cs := ftcG 1 2) rfl _ _ rfl rfl rfl H22.out (ft_sz _ _ _ _) (ft_ok _ _) ?_)
  exact bodyPost_ret (ret_ag rfl _ rfl (H22.out.setRow _) (ft_ok _ _)) rfl ⟨rfl, below_setRow HB2.out _ _ (Nat.le_refl _)⟩
end Go.Proofs.YtooaajnkiokpnaaGreatDoor

namespace Go.Proofs.YtooaajnkiokpnaaGreatDoor
open Go.RowKit Go.WideShapes

theorem info_partsG {P : Program} {t : TypeId} {z : Value} {n b : Nat} (h : (P.info? t).map (fun i => (i.zero, i.size, i.bytes)) = some (some z, n, b)) : ∃ i, P.info? t = some i ∧ i.zero = some z ∧ i.size = n ∧ i.bytes = b := by
  cases hi : P.info? t with
  | none => rw [hi] at h; simp at h
  | some i => rw [hi] at h; simp at h; exact ⟨i, rfl, h.1, h.2.1, h.2.2⟩
theorem st_full : (Tryz.prog.info? 59).map (fun i => (i.zero, i.size, i.bytes)) = some (some (.agg #[.int .u32 0, .bool false, .int .u32 0, .int .u32 0, .int .u32 0, .int .u32 0, .bool false]), 7, 28) := by kernel_rfl
theorem bs_st (x : St) (w : World) : (Instr.buildSlice 155 1 #[(0, .agg x.c)]).run Tryz.prog w = .ok (.slice (some ⟨w.heap.size, 0, none⟩) 1 1) (w.alloc (.cells x.c 59)) := by unfold St.c; kernel_rfl
theorem ft_11n (w : World) : (binOp .neq 29 (.agg (ftcG 1 1)) (.agg #[.int .u8 0, .int .u32 0])).run Tryz.prog w = .ok (.bool true) w := ft_some (by omega) w
theorem ft_13n (w : World) : (binOp .neq 29 (.agg (ftcG 1 3)) (.agg #[.int .u8 0, .int .u32 0])).run Tryz.prog w = .ok (.bool true) w := ft_some (by omega) w
/-- Behind a list that is sent: what waits, and the fault. -/
def sendN (n : St) (L : List St) (l : List (Nat × Nat)) : List St × Nat := if (apN (lastN n L) (lastN n L) l).2 = 0 then (L ++ [(apN (lastN n L) (lastN n L) l).1], 0) else (L, 1)
/-- What Send leaves. -/
def SendPost (w : World) (base g : Nat) (n : St) (v : Value) (r : List St × Nat) (e : Ending) (w' : World) : Prop :=
  e = .returned (.agg (ftcG r.2 r.2)) ∧ ∃ v', Sd w' base g n v' r.1 ∧ Fs (sb g v) w w' ∧ Nx w v v'
attribute [local irreducible] St.c ftcG sec

set_option maxRecDepth 100000 in
set_option maxHeartbeats 4000000 in
theorem send_any {w : World} {base g : Nat} {n : St} {v : Value} {L : List St} (h : Sd w base g n v L) (hbase : base ≤ w.heap.size) (hl : L.length ≤ 100000) {A : Option Addr} {c : Nat} {l : List (Nat × Nat)} (hr : RdS w (· < w.heap.size) A (enl sgcG l)) (hln : l.length ≤ 1000000000000) :
    Calls Tryz.prog 89 #[.pointer (some ⟨g, 0, none⟩), .slice A l.length c] w (SendPost w base g n v (sendN n L l)) := by
  obtain ⟨r2, rb, rs⟩ := fault_var w
  have H4 := Lib.hid r2
  have HB := Lib.hid rb
  have H := Lib.hid (h.below rb)
  have HR := Lib.hid (hr.up rb)
  have hgl := h.row.lt
  have HLT := Lib.hid h.lts
  have hap := fun (W : World) (h : RdS W (· < W.heap.size) A (enl sgcG l)) => apply_any (lastN n L) (c := c) h hln
  have HS : Hid (sendN n L l = if (apN (lastN n L) (lastN n L) l).2 = 0 then (L ++ [(apN (lastN n L) (lastN n L) l).1], 0) else (L, 1)) := rfl
  unfold ApPost at hap
  clear h hr r2 rb rs
  generalize (apN (lastN n L) (lastN n L) l).1 = x at *
  generalize (apN (lastN n L) (lastN n L) l).2 = m at *
  generalize l.length = len at *
  go_enter Tryz.func89, Tryz.ntmps89
  go_upto_region 1 with fail
  generalize w.alloc (.cells #[.int .u8 0, .int .u32 0] 29) = w1 at *
  go_wp2_with fail
  refine (last_any H.out (by omega)).mono ?_
  rintro e w2 ⟨rfl, hb2⟩
  have H2 := Lib.hid (H.out.below hb2)
  have H42 := Lib.hid (H4.out.below hb2 H4.out.lt)
  have HB2 := Lib.hid (HB.out.trans (hb2.mono HB.out.size))
  have HR2 := Lib.hid (HR.out.up hb2)
  clear hb2 H H4 HB HR
  go_wp2_with fail
  refine (hap _ HR2.out).mono ?_
  rintro e w3 ⟨rfl, hb3⟩
  have key : (m = 0 ∧ True) ∨ ¬ m = 0 := by by_cases h0 : m = 0; exact .inl ⟨h0, trivial⟩; exact .inr h0
  rcases key with ⟨h0, _⟩ | h0
  · rw [if_pos h0] at HS ⊢
    obtain ⟨w4, hw4, t1, t2, t3, t4, t5, t6⟩ := two_vars w3 x 0 m
    rw [h0] at hw4 t4 ⊢
    have T1 := Lib.hid t1
    have T2 := Lib.hid t2
    have T3 := Lib.hid t3
    have T4 := Lib.hid t4
    have T7 := Lib.hid hw4
    have hb4 := hb3.trans (t5.mono hb3.size)
    have H5 := Lib.hid (H2.out.below hb4)
    have H45 := Lib.hid (H42.out.below hb4 H42.out.lt)
    have HB5 := Lib.hid (HB2.out.trans (hb4.mono HB2.out.size))
    have hp3 : g < w3.heap.size ∧ w.heap.size < w3.heap.size := by
      have h1 := H2.out.row.lt; have h2 := H42.out.lt; have := hb3.size
      omega
    have hne := ft_none
    clear t1 t2 t3 t4 t5 t6 hw4 hb3 hb4 H2 H42 HB2 HR2 hap h0
    go_upto_region 4 with (first | (refine wpList_sw (cs := x.c) rfl _ _ rfl rfl rfl T1.out (St.sz _ _) (St.ok _) ?_) | (refine wpList_sw (cs := ftcG 0 0) rfl _ _ rfl rfl rfl T2.out (ft_sz _ _ _ _) (ft_ok _ _) ?_))
    rw [T7.out]
    clear T1 T2 T7
    generalize w3.heap.size = p at *
    obtain ⟨A1, c1, rfl⟩ := H5.out.shape
    have hsn := H5.out.sent
    go_wp2_with (refine wpList_ld rfl _ rfl rfl T4.out (ft_ok _ _) ?_)
    refine wp_region_E 10 (fun w' => w'.cell? ⟨g, 7, none⟩ = some (.slice A1 L.length c1) ∧ Row w' p 59 x.c) (by kernel_rfl) ⟨hsn, T3.out⟩ (fun hHeld => ?_)
    refine wpAnyE_take (i := 0) (v := ?v0) rfl (by kernel_rfl) (by kernel_rfl) (by kernel_rfl) (by kernel_rfl) (fun _ _ _ h => h) (Or.inl ⟨by rfl, ?hy0⟩) (by assumption) ?rest0
    case hy0 => (intro w hSw; (try dsimp only at hSw); go_simp <;> with_reducible rfl)
    try simp only [Act.put, List.getElem_toArray, List.getElem_cons_zero, List.getElem_cons_succ, List.setIfInBounds_toArray, List.set_cons_zero, List.set_cons_succ]
    refine wpAnyE_take (i := 1) (v := ?v1) rfl (by kernel_rfl) (by kernel_rfl) (by kernel_rfl) (by kernel_rfl) (fun _ _ _ h => h) (Or.inl ⟨by rfl, ?hy1⟩) (by assumption) ?rest1
    case hy1 => (intro w hSw; (try dsimp only at hSw); go_simp <;> with_reducible rfl)
    try simp only [Act.put, List.getElem_toArray, List.getElem_cons_zero, List.getElem_cons_succ, List.setIfInBounds_toArray, List.set_cons_zero, List.set_cons_succ]
    refine wpAnyE_take (i := 2) (v := ?v2) rfl (by kernel_rfl) (by kernel_rfl) (by kernel_rfl) (by kernel_rfl) (fun _ _ _ h => h) (Or.inl ⟨by rfl, ?hy2⟩) (by assumption) ?rest2
    case hy2 => (intro w hSw; (try dsimp only at hSw); go_simp <;> with_reducible rfl)
    try simp only [Act.put, List.getElem_toArray, List.getElem_cons_zero, List.getElem_cons_succ, List.setIfInBounds_toArray, List.set_cons_zero, List.set_cons_succ]
    refine wpAnyE_take (i := 3) (v := ?v3) rfl (by kernel_rfl) (by kernel_rfl) (by kernel_rfl) (by kernel_rfl) (fun _ _ _ h => h) (Or.inl ⟨by rfl, ?hy3⟩) (by assumption) ?rest3
    case hy3 => (intro w hSw; (try dsimp only at hSw); go_simp <;> with_reducible rfl)
    try simp only [Act.put, List.getElem_toArray, List.getElem_cons_zero, List.getElem_cons_succ, List.setIfInBounds_toArray, List.set_cons_zero, List.set_cons_succ]
    refine wpAnyE_take (i := 4) (v := ?v4) rfl (by kernel_rfl) (by kernel_rfl) (by kernel_rfl) (by kernel_rfl) (fun _ _ _ h => h) (Or.inl ⟨by rfl, ?hy4⟩) (by assumption) ?rest4
    case hy4 => (intro w hSw; (try dsimp only at hSw); go_simp <;> with_reducible rfl)
    try simp only [Act.put, List.getElem_toArray, List.getElem_cons_zero, List.getElem_cons_succ, List.setIfInBounds_toArray, List.set_cons_zero, List.set_cons_succ]
    refine wpAnyE_take (i := 5) (v := _) rfl (by kernel_rfl) (by kernel_rfl) (by kernel_rfl) (by kernel_rfl) (fun _ _ _ h => h) (yields_ld (by rfl) _ rfl rfl (St.ok _) (fun _ hSw => hSw.2)) (by assumption) ?rest5w1
    try simp only [Act.put, List.getElem_toArray, List.getElem_cons_zero, List.getElem_cons_succ, List.setIfInBounds_toArray, List.set_cons_zero, List.set_cons_succ]
    refine wpAnyE_next (i := 6) (by kernel_rfl) rfl (fun K hK => ?_)
    refine step_bs1 (bs_st x) rfl (.tmp 26) rfl rfl ?_
    have hal : Below w4.heap.size w4 (w4.drew.alloc (.cells x.c 59)) := ((Below.refl _ _).drew).alloc (Nat.le_refl _) _
    have H6 := Lib.hid (H5.out.below hal)
    have H46 := Lib.hid (H45.out.below hal H45.out.lt)
    have HB6 := Lib.hid (HB5.out.trans (hal.mono HB5.out.size))
    have m0 := H6.out.sent
    have m1 : Row (w4.drew.alloc (.cells x.c 59)) p 59 x.c := T3.out.below hal T3.out.lt
    have HN6 := Lib.hid (Row.new w4.drew 59 x.c)
    have F46 := Lib.hid (T4.out.below hal T4.out.lt)
    have hq : w4.drew.heap.size = w4.heap.size := rfl
    rw [hq] at HN6 ⊢
    have hq2 : (w4.drew.alloc (.cells x.c 59)).heap.size = w4.heap.size + 1 := by simp
    have HQ := Lib.hid hq2
    have hpl : p < w4.heap.size := T3.out.lt
    clear hal hq hq2 H5 H45 HB5 T3 T4 hsn hHeld
    refine hK.out _ _ ⟨m0, m1⟩ (fun hHeld => ?_)
    clear hK K hHeld
    try simp only [Act.put, List.getElem_toArray, List.getElem_cons_zero, List.getElem_cons_succ, List.setIfInBounds_toArray, List.set_cons_zero, List.set_cons_succ]
    generalize w4.drew.alloc (.cells x.c 59) = w5 at *
    generalize w4.heap.size = q at *
    have hHeld : w5.cell? ⟨g, 7, none⟩ = some (.slice A1 L.length c1) ∧ Row w5 p 59 x.c := ⟨m0, m1⟩
    obtain ⟨i0, hi0, hz0, hz1, hz2⟩ := info_partsG st_full
    refine wpAnyE_next (i := 7) (by kernel_rfl) rfl (fun K hK => ?_)
    refine step_appS rfl (.tmp 25) (.tmp 27) 155 rfl base 59 i0 _ 7 28 Tryz.underlying155 hi0 hz0 hz1 hz2 rfl (.slice A1 L.length c1) L.length (enl St.l L) rfl H6.out.own ⟨q, 0, none⟩ 1 1 x.l rfl rfl (fun j u hj => by rw [add_plain, Nat.zero_add]; exact HN6.out.cell (by rw [← St.cl] at hj; simpa using hj)) (St.one x) (by omega) (by simp only [maxLen]; omega) (by omega) (by have := HQ.out; have := HB6.out.size; omega) ?_
    intro A6 c6 w6 hO6 hg6 hb6
    have hgn : some g ≠ (Value.slice A1 L.length c1).ownBlock := fun e => H6.out.ne e.symm
    have hpo : ∀ k, (Value.slice A1 L.length c1).ownBlock = some k → k < w.heap.size := fun k hk => (HLT.out k (.inr hk)).2
    have hrow : Row w6 g 157 (sdc n (.slice A1 L.length c1)) := (hg6.block g H6.out.row.lt hgn).trans H6.out.row
    have n0 := hrow.cell (j := 7) rfl
    have n1 : Row w6 p 59 x.c := (hg6.block p m1.lt (fun e => by have := hpo p e.symm; omega)).trans m1
    have z7 := hrow.thawed 7
    have hne6 : (Value.slice A6 (L.length + 1) c6).ownBlock ≠ some g := by
      rcases hb6 with e | e
      · rw [e]; exact H6.out.ne
      · rw [e]
        have := H6.out.row.lt
        intro e
        injection e with e
        omega
    have H7 : Hid (Sd (w6.setCell ⟨g, 7, none⟩ (.slice A6 (L.length + 1) c6)) base g n (.slice A6 (L.length + 1) c6) (L ++ [x])) := by
      refine ⟨hrow.stored 7 _, ?_, H6.out.gl, hne6⟩
      have := hO6.setCell (a := ⟨g, 7, none⟩) hne6 (.slice A6 (L.length + 1) c6)
      rw [List.length_append, enl_append, enl_one]
      exact this
    have HF7 : Hid (Fs (sb g (.slice A1 L.length c1)) w (w6.setCell ⟨g, 7, none⟩ (.slice A6 (L.length + 1) c6))) :=
      ((Fs.of_below HB6.out).trans (S' := ob (.slice A1 L.length c1)) (Fs.of_grown hg6) (fun k _ h => .inr h)).setCell (fun _ => .inl rfl) 7 _
    have HX7 : Hid (Nx w (.slice A1 L.length c1) (.slice A6 (L.length + 1) c6)) := by
      rcases hb6 with e | e
      · exact .inl e
      · refine .inr fun k hk => ?_
        rw [e] at hk
        injection hk with hk
        have := HB6.out.size
        have := HQ.out
        omega
    have HFAR : Hid (∀ k, sb g (.slice A6 (L.length + 1) c6) k → ¬ k = w.heap.size) := by
      show ∀ _ _, _
      intro k hk e
      rcases hk with rfl | hk
      · omega
      · rcases hb6 with e6 | e6
        · have := hpo k (e6.symm.trans hk)
          omega
        · have h6 : some k = some w5.heap.size := hk.symm.trans e6
          injection h6 with h6
          have := HQ.out
          omega
    have H47 : Hid (Row (w6.setCell ⟨g, 7, none⟩ (.slice A6 (L.length + 1) c6)) w.heap.size 29 (ftcG 0 0)) :=
      Row.stored' ((hg6.block w.heap.size H46.out.lt (fun e => by have := hpo _ e.symm; omega)).trans H46.out) (by show w.heap.size ≠ g; omega) _
    clear hO6 hg6 hb6 hgn hpo hne6 H6 H46 HB6 HN6 F46 HQ HLT hi0 hz0 hz1 hz2
    refine hK.out _ _ ⟨n0, n1⟩ (fun hHeld => ?_)
    clear hK K
    try simp only [Act.put, List.getElem_toArray, List.getElem_cons_zero, List.getElem_cons_succ, List.setIfInBounds_toArray, List.set_cons_zero, List.set_cons_succ]
    refine wpAnyE_take (i := 8) (v := ?v8q2) rfl (by kernel_rfl) (by kernel_rfl) (by kernel_rfl) (by kernel_rfl) (fun _ _ _ h => h) (Or.inl ⟨by rfl, ?hy8q2⟩) (by assumption) ?rest8q2
    case hy8q2 => (intro w hSw; (try dsimp only at hSw); go_simp <;> with_reducible rfl)
    try simp only [Act.put, List.getElem_toArray, List.getElem_cons_zero, List.getElem_cons_succ, List.setIfInBounds_toArray, List.set_cons_zero, List.set_cons_succ]
    refine wpAnyE_take (i := 9) (v := ?v9q2) rfl (by kernel_rfl) (by kernel_rfl) (by kernel_rfl) (by kernel_rfl) (fun _ _ _ h => h) (Or.inl ⟨by rfl, ?hy9q2⟩) (by assumption) ?rest9q2
    case hy9q2 => (intro w hSw; (try dsimp only at hSw); go_simp <;> with_reducible rfl)
    try simp only [Act.put, List.getElem_toArray, List.getElem_cons_zero, List.getElem_cons_succ, List.setIfInBounds_toArray, List.set_cons_zero, List.set_cons_succ]
    refine wpAnyE_last (by kernel_rfl) rfl (by kernel_rfl) (fun K hK => ?_)
    go_simp
    refine hK.out _ _ ?_
    clear hK K hHeld m0 m1 n0 n1 z7 hrow
    try simp only [Act.put, List.getElem_toArray, List.getElem_cons_zero, List.getElem_cons_succ, List.setIfInBounds_toArray, List.set_cons_zero, List.set_cons_succ]
    generalize w6.setCell ⟨g, 7, none⟩ (.slice A6 (L.length + 1) c6) = w7 at *
    have hzf : ftcG 0 0 = #[.int .u8 0, .int .u32 0] := by unfold ftcG; rfl
    have HZF := Lib.hid hzf
    clear hzf
    go_wp2_with (refine wpList_sw (cs := ftcG 0 0) rfl _ _ rfl rfl (by rw [HZF.out]; rfl) H47.out (ft_sz _ _ _ _) (ft_ok _ _) ?_)
    refine bodyPost_ret (ret_ag rfl _ rfl (H47.out.setRow _) (ft_ok _ _)) rfl ?_
    have hwl := hgl
    rw [HS.out]
    exact ⟨rfl, _, H7.out.fs (S := fun k => k = w.heap.size) (Fs.setRow (S := fun k => k = w.heap.size) (Fs.refl _ w7) (g := w.heap.size) (fun _ => rfl) (ftcG 0 0)) HFAR.out, (HF7.out.setRow (g := w.heap.size) (fun h => by omega) (ftcG 0 0)), HX7.out⟩
  · rw [if_neg h0] at HS ⊢
    obtain ⟨w4, hw4, t1, t2, t3, t4, t5, t6⟩ := two_vars w3 x 1 m
    have T1 := Lib.hid t1
    have T2 := Lib.hid t2
    have T4 := Lib.hid t4
    have T7 := Lib.hid hw4
    have hb4 := hb3.trans (t5.mono hb3.size)
    have H5 := Lib.hid (H2.out.below hb4)
    have H45 := Lib.hid (H42.out.below hb4 H42.out.lt)
    have HB5 := Lib.hid (HB2.out.trans (hb4.mono HB2.out.size))
    have hne := ft_some h0
    clear t1 t2 t3 t4 t5 t6 hw4 hb3 hb4 H2 H42 HB2 HR2 hap h0
    go_upto_region 4 with (first | (refine wpList_sw (cs := x.c) rfl _ _ rfl rfl rfl T1.out (St.sz _ _) (St.ok _) ?_) | (refine wpList_sw (cs := ftcG 1 m) rfl _ _ rfl rfl rfl T2.out (ft_sz _ _ _ _) (ft_ok _ _) ?_))
    rw [T7.out]
    clear T1 T2 T7
    generalize w3.heap.size = p at *
    go_wp2_with (refine wpList_ld rfl _ rfl rfl T4.out (ft_ok _ _) ?_)
    refine (connFault_anyG 1 _).mono ?_
    rintro e w5 ⟨rfl, hb5⟩
    have H6 := Lib.hid (H5.out.below hb5)
    have H46 := Lib.hid (H45.out.below hb5 H45.out.lt)
    have HB6 := Lib.hid (HB5.out.trans (hb5.mono HB5.out.size))
    clear hb5 H5 H45 HB5 T4 hne
    go_wp2_with (refine wpList_sw (cs := ftcG 1 1) rfl _ _ rfl rfl rfl H46.out (ft_sz _ _ _ _) (ft_ok _ _) ?_)
    refine bodyPost_ret (ret_ag rfl _ rfl (H46.out.setRow _) (ft_ok _ _)) rfl ?_
    rw [HS.out]
    exact ⟨rfl, v, H6.out.fs (S := fun k => k = w.heap.size) (Fs.setRow (S := fun k => k = w.heap.size) (Fs.refl _ w5) (g := w.heap.size) (fun _ => rfl) (ftcG 1 1)) (fun k hk e => by have := HLT.out k hk; omega), (Fs.of_below HB6.out).setRow (g := w.heap.size) (fun h => by omega) (ftcG 1 1), Nx.refl _ _⟩
end Go.Proofs.YtooaajnkiokpnaaGreatDoor
