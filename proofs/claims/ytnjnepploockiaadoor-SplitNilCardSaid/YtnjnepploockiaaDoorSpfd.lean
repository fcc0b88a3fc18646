/-
  closeUp and Feed, by their contracts. Conditions: what is fed lies neither in the splitter nor in its buffer.
-/
import Derived.Test.YtnjnepploockiaaDoorSpst
import Derived.Test.YtnjnepploockiaaDoorLast
import Derived.Deep.RegionHeld3
namespace Go.Proofs.YtnjnepploockiaaDoor
open Go.RowKit Go.WideShapes

theorem u8_one : (Tryd.prog.info? 5).map (·.size) = some 1 := by kernel_rfl
theorem SpG.closed {w w2 : World} {g b fi la : Nat} {L : List UInt8} {wt : Bool} (h : SpG w g b fi la L wt) (h2 : Row w2 b 5 (byc (splB L 0 ((heldL L fi la).take 16393))).toArray) (hf : Fs (fun k => k = b) w w2) :
    SpG ((w2.setCell ⟨g, 2, none⟩ (.int .i64 ((la - fi : Nat) : Int))).setCell ⟨g, 1, none⟩ (.int .i64 0)) g b 0 (la - fi) (splB L 0 ((heldL L fi la).take 16393)) wt ∧ heldL (splB L 0 ((heldL L fi la).take 16393)) 0 (la - fi) = heldL L fi la := by
  have hl := h.held_len
  have hla := h.la
  have hlen := h.len
  have ht : (heldL L fi la).take 16393 = heldL L fi la := List.take_of_length_le (by omega)
  rw [ht] at h2 ⊢
  refine ⟨⟨?_, (h2.stored' h.ne _).stored' h.ne _, h.ne, ?_, Nat.zero_le _, by omega, h.lo⟩, ?_⟩
  · exact ((hf.row (b := g) h.ne.symm h.row).stored 2 _).stored 1 _
  · rw [splB_length (by omega), hlen]
  · have := splB_take (L := L) (m := heldL L fi la) (off := 0) (by omega)
    rw [hl, Nat.zero_add] at this
    unfold heldL at this ⊢
    rw [List.drop_zero, Nat.sub_zero, this]
    rfl

set_option maxRecDepth 100000 in
set_option maxHeartbeats 2000000 in
theorem close_any {w : World} {g b fi la : Nat} {L : List UInt8} {wt : Bool} (h : SpG w g b fi la L wt) :
    Calls Tryd.prog 27 #[.pointer (some ⟨g, 0, none⟩)] w fun e w' => e = .returned (.tuple #[]) ∧ ∃ L', SpG w' g b 0 (la - fi) L' wt ∧ heldL L' 0 (la - fi) = heldL L fi la ∧ Fs (gbS g b) w w' := by
  have hh := held_any (h.drewN 1)
  have d0 : w.drew.cell? ⟨g, 0, none⟩ = some (.slice (some ⟨b, 0, none⟩) 16393 16393) := h.c0
  have H : Hid (SpG w.drew g b fi la L wt) := h.drewN 1
  have HF : Hid (Fs (gbS g b) w w.drew) := (Fs.refl _ w).drewN 1
  have hl := h.held_len
  have hne := h.ne
  clear h
  go_enter Tryd.func27, Tryd.ntmps27
  go_wp2_with fail
  refine wp_region_E 10 (fun w' => w'.cell? ⟨g, 0, none⟩ = some (.slice (some ⟨b, 0, none⟩) 16393 16393)) (by kernel_rfl) d0 (fun hHeld => ?_)
  refine wpAnyE_take (i := 0) (v := ?v0) rfl (by kernel_rfl) (by kernel_rfl) (by kernel_rfl) (by kernel_rfl) (fun _ _ _ h => h) (Or.inl ⟨by rfl, ?hy0⟩) (by assumption) ?rest0
  case hy0 => (intro w hSw; (try dsimp only at hSw); go_simp <;> with_reducible rfl)
  try simp only [Act.put, List.getElem_toArray, List.getElem_cons_zero, List.setIfInBounds_toArray, List.set_cons_zero, List.set_cons_succ]
  refine wpAnyE_take (i := 1) (v := ?v1) rfl (by kernel_rfl) (by kernel_rfl) (by kernel_rfl) (by kernel_rfl) (fun _ _ _ h => h) (Or.inl ⟨by rfl, ?hy1⟩) (by assumption) ?rest1
  case hy1 => (intro w hSw; (try dsimp only at hSw); go_simp <;> with_reducible rfl)
  try simp only [Act.put, List.getElem_toArray, List.getElem_cons_zero, List.getElem_cons_succ, List.setIfInBounds_toArray, List.set_cons_zero, List.set_cons_succ]
  refine wpAnyE_take (i := 2) (v := ?v2) rfl (by kernel_rfl) (by kernel_rfl) (by kernel_rfl) (by kernel_rfl) (fun _ _ _ h => h) (Or.inl ⟨by rfl, ?hy2⟩) (by assumption) ?rest2
  case hy2 => (intro w hSw; (try dsimp only at hSw); go_simp <;> with_reducible rfl)
  try simp only [Act.put, List.getElem_toArray, List.getElem_cons_zero, List.getElem_cons_succ, List.setIfInBounds_toArray, List.set_cons_zero, List.set_cons_succ]
  refine wpAnyE_take (i := 3) (v := ?v3) rfl (by kernel_rfl) (by kernel_rfl) (by kernel_rfl) (by kernel_rfl) (fun _ _ _ h => h) (Or.inl ⟨by rfl, ?hy3⟩) (by assumption) ?rest3
  case hy3 => (intro w hSw; (try dsimp only at hSw); go_simp <;> with_reducible rfl)
  try simp only [Act.put, List.getElem_toArray, List.getElem_cons_zero, List.getElem_cons_succ, List.setIfInBounds_toArray, List.set_cons_zero, List.set_cons_succ]
  refine wpAnyE_take (i := 4) (v := ?v4) rfl (by kernel_rfl) (by kernel_rfl) (by kernel_rfl) (by kernel_rfl) (fun _ _ _ h => h) (Or.inl ⟨by rfl, ?hy4⟩) (by assumption) ?rest4
  case hy4 => (intro w hSw; (try dsimp only at hSw); go_simp <;> with_reducible rfl)
  try simp only [Act.put, List.getElem_toArray, List.getElem_cons_zero, List.getElem_cons_succ, List.setIfInBounds_toArray, List.set_cons_zero, List.set_cons_succ]
  refine wpAnyE_take (i := 5) (v := ?v5) rfl (by kernel_rfl) (by kernel_rfl) (by kernel_rfl) (by kernel_rfl) (fun _ _ _ h => h) (Or.inl ⟨by rfl, ?hy5⟩) (by assumption) ?rest5
  case hy5 => (intro w hSw; (try dsimp only at hSw); go_simp <;> with_reducible rfl)
  try simp only [Act.put, List.getElem_toArray, List.getElem_cons_zero, List.getElem_cons_succ, List.setIfInBounds_toArray, List.set_cons_zero, List.set_cons_succ]
  refine wpAnyE_next (i := 6) (by kernel_rfl) rfl (fun K hK => ?_)
  go_simp
  go_at_call 25
  refine hh.mono ?_
  rintro e w2 ⟨A', rfl, hr, _, n, rfl⟩
  have k0 : (w.drewN (1 + n)).cell? ⟨g, 0, none⟩ = some (.slice (some ⟨b, 0, none⟩) 16393 16393) := d0
  have HR : Hid (RdB (w.drewN (1 + n)) w.drew.heap.size A' (heldL L fi la)) := hr
  have H2 : Hid (SpG (w.drewN (1 + n)) g b fi la L wt) := H.out.keep rfl rfl
  have HF2 : Hid (Fs (gbS g b) w (w.drewN (1 + n))) := ⟨HF.out.os, HF.out.tape, HF.out.output, HF.out.size, HF.out.block⟩
  clear hr hh H HF d0 hHeld
  go_simp
  generalize w.drewN (1 + n) = w2 at *
  refine hK.out _ _ k0 (fun hHeld => ?_)
  clear hK K
  try simp only [Act.put, List.getElem_toArray, List.getElem_cons_zero, List.getElem_cons_succ, List.setIfInBounds_toArray, List.set_cons_zero, List.set_cons_succ]
  refine wpAnyE_next (i := 7) (by kernel_rfl) rfl (fun K hK => ?_)
  have hA : Hid ((heldL L fi la).take 16393 = heldL L fi la) := List.take_of_length_le (by have := H2.out.la; omega)
  rw [← hl]
  refine step_copyB rfl (.tmp 6) (.tmp 8) 22 rfl 5 Tryd.underlying22 u8_one b 0 16393 16393 (some ⟨b, 0, none⟩) A' (heldL L fi la) _ L 5 rfl rfl (fun _ => rfl) _ HR.out H2.out.buf (by rw [H2.out.len]; omega) (fun w3 hb3 hf3 => ?_)
  have hn : min (heldL L fi la).length 16393 = la - fi := by rw [hl]; have := H2.out.la; omega
  rw [hn]
  have q0 : w3.cell? ⟨g, 0, none⟩ = some (.slice (some ⟨b, 0, none⟩) 16393 16393) := (hf3.row (b := g) hne.symm H2.out.row).cell rfl
  have ht := Row.thawed (hf3.row (b := g) hne.symm H2.out.row) 2
  have hc2 : w3.cell? ⟨g, 2, none⟩ = some (.int .i64 (la : Int)) := (hf3.row (b := g) hne.symm H2.out.row).cell rfl
  have hcl := H2.out.closed hb3 hf3
  have HC := Lib.hid hcl
  have HF3 : Hid (Fs (gbS g b) w ((w3.setCell ⟨g, 2, none⟩ (.int .i64 ((la - fi : Nat) : Int))).setCell ⟨g, 1, none⟩ (.int .i64 0))) := ((HF2.out.trans hf3 (fun k _ e => .inr e)).setCell (g := g) (fun _ => .inl rfl) 2 _).setCell (g := g) (fun _ => .inl rfl) 1 _
  have ht1 := Row.thawed ((hf3.row (b := g) hne.symm H2.out.row).stored 2 (.int .i64 ((la - fi : Nat) : Int))) 1
  have hc1 : (w3.setCell ⟨g, 2, none⟩ (.int .i64 ((la - fi : Nat) : Int))).cell? ⟨g, 1, none⟩ = some (.int .i64 (fi : Int)) := Row.cell ((hf3.row (b := g) hne.symm H2.out.row).stored 2 (.int .i64 ((la - fi : Nat) : Int))) rfl
  have HL := Lib.hid hl
  generalize splB L 0 ((heldL L fi la).take 16393) = L' at *
  clear hcl hb3 hf3 H2 HF2 hA hn hl HR k0
  refine hK.out _ _ q0 (fun hHeld => ?_)
  clear hK K
  try simp only [Act.put, List.getElem_toArray, List.getElem_cons_zero, List.getElem_cons_succ, List.setIfInBounds_toArray, List.set_cons_zero, List.set_cons_succ]
  refine wpAnyE_take (i := 8) (v := ?v8q1) rfl (by kernel_rfl) (by kernel_rfl) (by kernel_rfl) (by kernel_rfl) (fun _ _ _ h => h) (Or.inl ⟨by rfl, ?hy8q1⟩) (by assumption) ?rest8q1
  case hy8q1 => (intro w hSw; (try dsimp only at hSw); go_simp <;> with_reducible rfl)
  try simp only [Act.put, List.getElem_toArray, List.getElem_cons_zero, List.getElem_cons_succ, List.setIfInBounds_toArray, List.set_cons_zero, List.set_cons_succ]
  refine wpAnyE_take (i := 9) (v := ?v9q1) rfl (by kernel_rfl) (by kernel_rfl) (by kernel_rfl) (by kernel_rfl) (fun _ _ _ h => h) (Or.inl ⟨by rfl, ?hy9q1⟩) (by assumption) ?rest9q1
  case hy9q1 => (intro w hSw; (try dsimp only at hSw); go_simp <;> with_reducible rfl)
  try simp only [Act.put, List.getElem_toArray, List.getElem_cons_zero, List.getElem_cons_succ, List.setIfInBounds_toArray, List.set_cons_zero, List.set_cons_succ]
  refine wpAnyE_last (by kernel_rfl) rfl (by kernel_rfl) (fun K hK => ?_)
  go_simp
  refine hK.out _ _ ?_
  clear hK K
  try simp only [Act.put, List.getElem_toArray, List.getElem_cons_zero, List.getElem_cons_succ, List.setIfInBounds_toArray, List.set_cons_zero, List.set_cons_succ]
  go_wp2_with fail
  go_end0
  exact ⟨rfl, L', HC.out.1, HC.out.2, HF3.out⟩

theorem SpG.fed {w w2 : World} {g b n : Nat} {L x : List UInt8} {wt : Bool} (h : SpG w g b 0 n L wt) (h2 : Row w2 b 5 (byc (splB L n (x.take (16393 - n)))).toArray) (hf : Fs (fun k => k = b) w w2) :
    SpG (w2.setCell ⟨g, 2, none⟩ (.int .i64 ((n + min x.length (16393 - n) : Nat) : Int))) g b 0 (n + min x.length (16393 - n)) (splB L n (x.take (16393 - n))) wt ∧ heldL (splB L n (x.take (16393 - n))) 0 (n + min x.length (16393 - n)) = heldL L 0 n ++ x.take (16393 - n) := by
  have hla := h.la
  have hlen := h.len
  have hm : (x.take (16393 - n)).length = min x.length (16393 - n) := by rw [List.length_take, Nat.min_comm]
  refine ⟨⟨(hf.row (b := g) h.ne.symm h.row).stored 2 _, h2.stored' h.ne _, h.ne, by rw [splB_length (by omega), hlen], Nat.zero_le _, by omega, h.lo⟩, ?_⟩
  have := splB_take (L := L) (m := x.take (16393 - n)) (off := n) (by omega)
  rw [hm] at this
  unfold heldL
  rw [List.drop_zero, List.drop_zero, Nat.sub_zero, Nat.sub_zero, this]

set_option maxRecDepth 100000 in
set_option maxHeartbeats 2000000 in
theorem feed_good {w : World} {g b fi la : Nat} {L x : List UInt8} {wt : Bool} {A : Option Addr} {c : Nat} (h : SpG w g b fi la L wt) (hx : RdS w (fun k => k < w.heap.size ∧ k ≠ g ∧ k ≠ b) A (byc x)) :
    Calls Tryd.prog 15 #[.pointer (some ⟨g, 0, none⟩), .slice A x.length c] w fun e w' => e = .returned (.int .i64 ((min x.length (16393 - (la - fi)) : Nat) : Int)) ∧ ∃ la' L', SpG w' g b 0 la' L' wt ∧ heldL L' 0 la' = heldL L fi la ++ x.take (16393 - (la - fi)) ∧ Fs (gbS g b) w w' := by
  obtain ⟨i0, hi0, hz0, hz1, hz2⟩ := info_parts u8_info
  have hb := bad_cell h.c4
  have hc := close_any h
  have HX := Lib.hid hx
  have hnl : la - fi ≤ 16393 := by have := h.la; omega
  clear h hx
  generalize la - fi = n at *
  go_enter Tryd.func15, Tryd.ntmps15
  go_wp2_with fail
  refine hb.mono ?_
  rintro e w0 ⟨rfl, rfl⟩
  go_wp2_with fail
  refine hc.mono ?_
  rintro e w1 ⟨rfl, L1, h1, he1, hf1⟩
  have HR : Hid (RdB w1 w1.heap.size A x) := RdB.ofS (hf1.reads HX.out fun k hk => ⟨hk.1, fun h2 => by rcases h2 with h2 | h2; exact hk.2.1 h2; exact hk.2.2 h2⟩) fun k hk _ => Nat.lt_of_lt_of_le hk.1 hf1.size
  obtain ⟨A2, hcut, hA2⟩ := cut_addr (P := Tryd.prog) Tryd.underlying22 hi0 hz1 (A := some ⟨b, 0, none⟩) (n := 16393) (c := 16393) (k := n) (by omega) hnl
  have H1 : Hid (SpG w1.drew g b 0 n L1 wt) := h1.drewN 1
  have HF1 : Hid (Fs (gbS g b) w0 w1.drew) := hf1.drewN 1
  have HE1 := Lib.hid he1
  have d0 : w1.drew.cell? ⟨g, 0, none⟩ = some (.slice (some ⟨b, 0, none⟩) 16393 16393) := h1.c0
  have d2 : w1.drew.cell? ⟨g, 2, none⟩ = some (.int .i64 (n : Int)) := h1.c2
  clear h1 hf1 he1 hc hb HX
  have hm1 : (n : Int) ≤ 16393 := by omega
  go_wp2_with fail
  refine wp_region_held_drew (S := fun w' => w'.cell? ⟨g, 0, none⟩ = some (.slice (some ⟨b, 0, none⟩) 16393 16393) ∧ w'.cell? ⟨g, 2, none⟩ = some (.int .i64 (n : Int))) (by kernel_rfl) ⟨d0, d2⟩ (fun hHeld => ?_)
  refine wpAnyH_take (i := 0) (v := ?v0q2) rfl (by kernel_rfl) (by kernel_rfl) (by kernel_rfl) (fun _ _ _ h => h) (Or.inl ⟨by rfl, ?hy0q2⟩) (by assumption) ?rest0q2
  case hy0q2 => (intro w hSw; (try dsimp only at hSw); go_simp <;> with_reducible rfl)
  try simp only [Act.put, List.getElem_toArray, List.getElem_cons_zero, List.setIfInBounds_toArray, List.set_cons_zero, List.set_cons_succ]
  refine wpAnyH_take (i := 1) (v := ?v1q2) rfl (by kernel_rfl) (by kernel_rfl) (by kernel_rfl) (fun _ _ _ h => h) (Or.inl ⟨by rfl, ?hy1q2⟩) (by assumption) ?rest1q2
  case hy1q2 => (intro w hSw; (try dsimp only at hSw); go_simp <;> with_reducible rfl)
  try simp only [Act.put, List.getElem_toArray, List.getElem_cons_zero, List.getElem_cons_succ, List.setIfInBounds_toArray, List.set_cons_zero, List.set_cons_succ]
  refine wpAnyH_take (i := 2) (v := ?v2q2) rfl (by kernel_rfl) (by kernel_rfl) (by kernel_rfl) (fun _ _ _ h => h) (Or.inl ⟨by rfl, ?hy2q2⟩) (by assumption) ?rest2q2
  case hy2q2 => (intro w hSw; (try dsimp only at hSw); go_simp <;> with_reducible rfl)
  try simp only [Act.put, List.getElem_toArray, List.getElem_cons_zero, List.getElem_cons_succ, List.setIfInBounds_toArray, List.set_cons_zero, List.set_cons_succ]
  refine wpAnyH_take (i := 3) (v := ?v3q2) rfl (by kernel_rfl) (by kernel_rfl) (by kernel_rfl) (fun _ _ _ h => h) (Or.inl ⟨by rfl, ?hy3q2⟩) (by assumption) ?rest3q2
  case hy3q2 => (intro w hSw; (try dsimp only at hSw); go_simp <;> with_reducible rfl)
  try simp only [Act.put, List.getElem_toArray, List.getElem_cons_zero, List.getElem_cons_succ, List.setIfInBounds_toArray, List.set_cons_zero, List.set_cons_succ]
  refine wpAnyH_take (i := 4) (v := ?v4q2) rfl (by kernel_rfl) (by kernel_rfl) (by kernel_rfl) (fun _ _ _ h => h) (Or.inl ⟨by rfl, ?hy4q2⟩) (by assumption) ?rest4q2
  case hy4q2 => (intro w hSw; (try dsimp only at hSw); go_simp <;> with_reducible rfl)
  try simp only [Act.put, List.getElem_toArray, List.getElem_cons_zero, List.getElem_cons_succ, List.setIfInBounds_toArray, List.set_cons_zero, List.set_cons_succ]
  refine wpAnyH_take (i := 5) (v := ?v5q2) rfl (by kernel_rfl) (by kernel_rfl) (by kernel_rfl) (fun _ _ _ h => h) (Or.inl ⟨by rfl, ?hy5q2⟩) (by assumption) ?rest5q2
  case hy5q2 => (intro w hSw; (try dsimp only at hSw); go_simp <;> with_reducible rfl)
  try simp only [Act.put, List.getElem_toArray, List.getElem_cons_zero, List.getElem_cons_succ, List.setIfInBounds_toArray, List.set_cons_zero, List.set_cons_succ]
  refine wpAnyH_take (i := 6) (v := ?v6q2) rfl (by kernel_rfl) (by kernel_rfl) (by kernel_rfl) (fun _ _ _ h => h) (Or.inl ⟨by rfl, ?hy6q2⟩) (by assumption) ?rest6q2
  case hy6q2 => (intro w hSw; (try dsimp only at hSw); go_simp <;> with_reducible rfl)
  try simp only [Act.put, List.getElem_toArray, List.getElem_cons_zero, List.getElem_cons_succ, List.setIfInBounds_toArray, List.set_cons_zero, List.set_cons_succ]
  refine wpAnyH_take (i := 7) (v := ?v7q2) rfl (by kernel_rfl) (by kernel_rfl) (by kernel_rfl) (fun _ _ _ h => h) (Or.inl ⟨by rfl, ?hy7q2⟩) (by assumption) ?rest7q2
  case hy7q2 => (intro w hSw; (try dsimp only at hSw); go_simp <;> with_reducible rfl)
  try simp only [Act.put, List.getElem_toArray, List.getElem_cons_zero, List.getElem_cons_succ, List.setIfInBounds_toArray, List.set_cons_zero, List.set_cons_succ]
  refine wpAnyH_take (i := 8) (v := ?v8q2) rfl (by kernel_rfl) (by kernel_rfl) (by kernel_rfl) (fun _ _ _ h => h) (Or.inl ⟨by rfl, ?hy8q2⟩) (by assumption) ?rest8q2
  case hy8q2 => (intro w hSw; (try dsimp only at hSw); go_simp <;> with_reducible rfl)
  try simp only [Act.put, List.getElem_toArray, List.getElem_cons_zero, List.getElem_cons_succ, List.setIfInBounds_toArray, List.set_cons_zero, List.set_cons_succ]
  refine wpAnyH_take (i := 9) (v := ?v9q2) rfl (by kernel_rfl) (by kernel_rfl) (by kernel_rfl) (fun _ _ _ h => h) (Or.inl ⟨by rfl, ?hy9q2⟩) (by assumption) ?rest9q2
  case hy9q2 => (intro w hSw; (try dsimp only at hSw); go_simp <;> with_reducible rfl)
  try simp only [Act.put, List.getElem_toArray, List.getElem_cons_zero, List.getElem_cons_succ, List.setIfInBounds_toArray, List.set_cons_zero, List.set_cons_succ]
  refine wpAnyH_ready (rs := [10]) (by kernel_rfl) (by simp) ?_
  refine AllReadyH.cons rfl (fun K hK => ?_) AllReadyH.nil
  refine step_copyB rfl (.tmp 18) (.tmp 19) 22 rfl 5 Tryd.underlying22 u8_one b n (16393 - n) (16393 - n) A2 A x c L1 5 rfl rfl (fun h0 => by rw [hA2 (by omega)]; simp [add_plain]) _ HR.out H1.out.buf (by rw [H1.out.len]; omega) (fun w3 hb3 hf3 => ?_)
  have hfed := H1.out.fed hb3 hf3
  have HC := Lib.hid hfed
  have HF3 : Hid (Fs (gbS g b) w0 (w3.setCell ⟨g, 2, none⟩ (.int .i64 ((n + min x.length (16393 - n) : Nat) : Int)))) := (HF1.out.trans hf3 (fun k _ e => .inr e)).setCell (g := g) (fun _ => .inl rfl) 2 _
  have hR3 := hf3.row (b := g) H1.out.ne.symm H1.out.row
  have q0 : w3.cell? ⟨g, 0, none⟩ = some (.slice (some ⟨b, 0, none⟩) 16393 16393) := hR3.cell rfl
  have q2 : w3.cell? ⟨g, 2, none⟩ = some (.int .i64 (n : Int)) := hR3.cell rfl
  have ht := Row.thawed hR3 2
  have hk : min x.length (16393 - n) ≤ 16393 := by omega
  have HE : Hid (heldL (splB L1 n (x.take (16393 - n))) 0 (n + min x.length (16393 - n)) = heldL L fi la ++ x.take (16393 - n)) := by
    show _ = _
    rw [hfed.2, HE1.out]
  generalize splB L1 n (x.take (16393 - n)) = L2 at *
  clear hfed hb3 hf3 hR3 HE1 H1 HF1 HR d0 d2 hcut hA2
  refine hK.out _ _ ⟨q0, q2⟩ (fun hHeld => ?_)
  clear hK K
  generalize hmk : min x.length (16393 - n) = k at *
  have HM := Lib.hid hmk
  clear hmk
  try simp only [Act.put, List.getElem_toArray, List.getElem_cons_zero, List.getElem_cons_succ, List.setIfInBounds_toArray, List.set_cons_zero, List.set_cons_succ]
  refine wpAnyH_take (i := 11) (v := ?v11q3) rfl (by kernel_rfl) (by kernel_rfl) (by kernel_rfl) (fun _ _ _ h => h) (Or.inl ⟨by rfl, ?hy11q3⟩) (by assumption) ?rest11q3
  case hy11q3 => (intro w hSw; (try dsimp only at hSw); go_simp <;> with_reducible rfl)
  try simp only [Act.put, List.getElem_toArray, List.getElem_cons_zero, List.getElem_cons_succ, List.setIfInBounds_toArray, List.set_cons_zero, List.set_cons_succ]
  refine wpAnyH_done (by kernel_rfl) ?_ _
  clear hHeld
  rw [show ((n + k : Nat) : Int) = (n : Int) + (k : Int) by omega] at HC HF3
  go_wp2_with fail
  go_ret
  rw [HM.out]
  exact ⟨rfl, _, L2, HC.out.1, HE.out, HF3.out⟩
end Go.Proofs.YtnjnepploockiaaDoor
