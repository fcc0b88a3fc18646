/-
  A message that is cut (Cut), by its contract. Conditions: how many bytes it may have.
-/
import Derived.Test.YtdegpchofhnipaaDoorMclo
namespace Go.Proofs.YtdegpchofhnipaaDoor
open Go.RowKit Go.WideShapes

/-- A frame's opcode, whether it is the last one, its bytes. -/
def Pe.key3 (e : Pe) : Nat × Bool × List UInt8 := (e.p.op, e.p.fin, e.p.dat)
/-- A frame that isn't masked, with room for its bytes. -/
def PeN (e : Pe) : Prop := e.p.mask = false ∧ e.p.key = 0 ∧ e.p.dat.length ≤ e.c
/-- What Cut leaves. -/
def CuP (w : World) (n op : Nat) (b : List UInt8) (e : Ending) (w' : World) : Prop :=
  ∃ A c L, e = .returned (.slice A L.length c) ∧ CutM n op b (L.map Pe.key3) ∧ (∀ x ∈ L, PeN x) ∧ PL w' w.heap.size (fun k => k < w.heap.size) (.slice A L.length c) L ∧ Below w.heap.size w w'
theorem PL.sub {w : World} {base : Nat} {X X' : Nat → Prop} {v : Value} {L : List Pe} (h : PL w base X v L) (hX : ∀ k, X' k → X k) : PL w base X' v L :=
  ⟨h.own, fun e he => (h.ins e he).imp fun k hk _ => ⟨hk.1, hk.2.1, fun h1 => hk.2.2 (hX k h1)⟩, fun k hk h1 => h.far k hk (hX k h1)⟩
/-- On the way: the frame p that is made next, the list, what is still to cut. -/
structure CW (w : World) (p n op0 : Nat) (b : List UInt8) (W : World) (gv : Value) (L : List Pe) (rest : List UInt8) (fin : Bool) (op : Nat) (A : Option Addr) (m c : Nat) : Prop where
  pr : Row W p 32 (pcC fin op false 0 A m c)
  pl : PL W w.heap.size (fun k => k < w.heap.size ∨ k = p) gv L
  ok : ∀ x ∈ L, PeN x
  cu : ∀ l, CutM n op rest l → CutM n op0 b (L.map Pe.key3 ++ l)
  ln : L.length + rest.length ≤ b.length
  bl : Below w.heap.size w W
  np : w.heap.size ≤ p
section
variable {w W W' : World} {p n op0 : Nat} {b rest : List UInt8} {gv : Value} {L : List Pe} {fin : Bool} {op m c : Nat} {A : Option Addr}
theorem CW.below (h : CW w p n op0 b W gv L rest fin op A m c) (hb : Below W.heap.size W W') : CW w p n op0 b W' gv L rest fin op A m c := ⟨h.pr.upM hb, h.pl.below hb, h.ok, h.cu, h.ln, h.bl.trans (hb.mono h.bl.size), h.np⟩
theorem CW.fsP (_h : CW w p n op0 b W gv L rest fin op A m c) (x : Array Value) : Fs (fun k => k < w.heap.size ∨ k = p) W (W.setRow p x) := (Fs.refl _ W).setRow (fun _ => .inr rfl) x
/-- The frame's variable is written. -/
theorem CW.setRow (h : CW w p n op0 b W gv L rest fin op A m c) (fin' : Bool) (op' : Nat) (A' : Option Addr) (m' c' : Nat) (hcu : ∀ l, CutM n op' rest l → CutM n op0 b (L.map Pe.key3 ++ l)) : CW w p n op0 b (W.setRow p (pcC fin' op' false 0 A' m' c')) gv L rest fin' op' A' m' c' :=
  ⟨h.pr.setRow _, h.pl.fs (h.fsP _), h.ok, hcu, h.ln, below_setRow h.bl _ _ h.np, h.np⟩
theorem CW.dat (h : CW w p n op0 b W gv L rest fin op A m c) (A' : Option Addr) (m' c' : Nat) : CW w p n op0 b (W.setCell ⟨p, 4, none⟩ (.slice A' m' c')) gv L rest fin op A' m' c' :=
  ⟨h.pr.stored 4 _, h.pl.fs ((Fs.refl _ W).setCell (g := p) (fun _ => .inr rfl) 4 _), h.ok, h.cu, h.ln, h.bl.setCell (p := ⟨p, 4, none⟩) h.np _, h.np⟩
theorem CW.opc (h : CW w p n op0 b W gv L rest fin op A m c) (op' : Nat) (hcu : ∀ l, CutM n op' rest l → CutM n op0 b (L.map Pe.key3 ++ l)) : CW w p n op0 b (W.setCell ⟨p, 1, none⟩ (.int .u8 (op' : Int))) gv L rest fin op' A m c :=
  ⟨h.pr.stored 1 _, h.pl.fs ((Fs.refl _ W).setCell (g := p) (fun _ => .inr rfl) 1 _), h.ok, hcu, h.ln, h.bl.setCell (p := ⟨p, 1, none⟩) h.np _, h.np⟩
theorem CW.flag (h : CW w p n op0 b W gv L rest fin op A m c) (f : Bool) : CW w p n op0 b (W.setCell ⟨p, 0, none⟩ (.bool f)) gv L rest f op A m c :=
  ⟨h.pr.stored 0 _, h.pl.fs ((Fs.refl _ W).setCell (g := p) (fun _ => .inr rfl) 0 _), h.ok, h.cu, h.ln, h.bl.setCell (p := ⟨p, 0, none⟩) h.np _, h.np⟩
/-- One more frame lies in the list. -/
theorem CW.app (h : CW w p n op0 b W gv L rest fin op A m c) {gv' : Value} {e : Pe} (hp : PL W' w.heap.size (fun k => k < w.heap.size ∨ k = p) gv' (L ++ [e])) (hf : Fs (ob gv) W W') (he : PeN e) {rest' : List UInt8} (hcu : ∀ l, CutM n 0 rest' l → CutM n op0 b ((L ++ [e]).map Pe.key3 ++ l)) (hln : (L ++ [e]).length + rest'.length ≤ b.length) :
    Row W' p 32 (pcC fin op false 0 A m c) ∧ (∀ A' m' c', CW w p n op0 b (W'.setRow p (pcC false 0 false 0 A' m' c')) gv' (L ++ [e]) rest' false 0 A' m' c') := by
  have hpo : ¬ ob gv p := fun hk => h.pl.far p hk (.inr rfl)
  have hR := hf.row hpo h.pr
  have hb : Below w.heap.size w W' := h.bl.trans (hf.below (fun k hk _ => (OwS.lt h.pl.own k hk).1) h.bl.size)
  refine ⟨hR, fun A' m' c' => ⟨hR.setRow _, hp.fs ((Fs.refl _ W').setRow (fun _ => .inr rfl) _), fun x hx => ?_, hcu, hln, below_setRow hb _ _ h.np, h.np⟩⟩
  rcases List.mem_append.1 hx with hx | hx
  · exact h.ok x hx
  · rw [List.mem_singleton.1 hx]; exact he
end
theorem cut_next {n op op0 : Nat} {b rest : List UInt8} {L : List Pe} {e : Pe} (hcu : ∀ l, CutM n op rest l → CutM n op0 b (L.map Pe.key3 ++ l)) (hn : n < rest.length) (he : e.key3 = (op, false, rest.take n)) : ∀ l, CutM n 0 (rest.drop n) l → CutM n op0 b ((L ++ [e]).map Pe.key3 ++ l) := fun l hl => by
  have := hcu _ (.more hn hl)
  rw [List.map_append, List.append_assoc]
  simpa [he] using this
/-- A slice's length. -/
def slM : Value → Nat
  | .slice _ n _ => n
  | _ => 0
theorem sizeM_int (most : Int) : min (max most 1) 4096 = (sizeM most : Int) := by unfold sizeM; split <;> (try split) <;> omega
set_option maxRecDepth 100000 in
set_option maxHeartbeats 8000000 in
theorem mcut_any {b : List UInt8} (hl : b.length ≤ 100000) {text : Bool} {most : Int} {A : Option Addr} {c : Nat} {w : World} (hr : RdB w w.heap.size A b) (hc : b.length ≤ c) :
    Calls Tryd.prog 17 #[.bool text, .slice A b.length c, .int .i64 most] w (CuP w (sizeM most) (opcM text) b) := by
  have hmin := sizeM_int most
  have hn1 := (sizeM_in most).1
  generalize sizeM most = n at *
  obtain ⟨i0, hi0, hz0, hz1, hz2⟩ := infoI infoI8
  have HR := Lib.hid hr
  have HC := Lib.hid hc
  have HL := Lib.hid hl
  have HN1 := Lib.hid hn1
  have HCF : Hid (∀ (A' : Option Addr) (r : List UInt8) (c' : Nat), RdB w w.heap.size A' r → r.length ≤ c' → n ≤ r.length → ∃ A2, (∀ W, (Instr.slice 30 (.slice A' r.length c') (some (.int .i64 (n : Int))) none none).run Tryd.prog W = .ok (.slice A2 (r.length - n) (c' - n)) W) ∧ RdB w w.heap.size A2 (r.drop n)) := fun A' r c' h1 h2 h3 => cut_from (P := Tryd.prog) Tryd.underlying30 hi0 hz1 h1 h2 h3
  have HCU : Hid (∀ (A' : Option Addr) (r : List UInt8) (c' : Nat), RdB w w.heap.size A' r → r.length ≤ c' → n ≤ r.length → (∀ W, (Instr.slice 30 (.slice A' r.length c') none (some (.int .i64 (n : Int))) none).run Tryd.prog W = .ok (.slice A' n c') W) ∧ RdB w w.heap.size A' (r.take n)) := fun A' r c' h1 h2 h3 => cut_upto (P := Tryd.prog) Tryd.underlying30 hi0 hz1 h1 h2 h3
  have HR0 : Hid (Row ((w.alloc (.cells zpJ 32)).setRow w.heap.size (pcC false 2 false 0 none 0 0)) w.heap.size 32 (pcC false 2 false 0 none 0 0)) := (Row.new w _ _).setRow _
  have HB0 : Hid (Below w.heap.size w ((w.alloc (.cells zpJ 32)).setRow w.heap.size (pcC false 2 false 0 none 0 0))) := below_setRow ((Below.refl _ _).alloc (Nat.le_refl _) _) _ _ (Nat.le_refl _)
  have HZ : Hid (Row (w.alloc (.cells zpJ 32)) w.heap.size 32 zpJ) := Row.new _ _ _
  clear hr hc hl hn1 hi0 hz0 hz1 hz2
  go_enter Tryd.func17, Tryd.ntmps17
  go_upto_region 3 with (refine wpList_sw (cs := pcC false 2 false 0 none 0 0) rfl _ _ rfl rfl rfl HZ.out rfl (pc_ok _ _ _ _ _ _ _) ?_)
  rw [zp_eq]
  clear hmin HZ
  go_upto_if 13 with fail
  go_cut [14] (fun _ wx => Hid (CW w w.heap.size n (opcM text) b wx (.slice none 0 0) [] b false (opcM text) none 0 0))
  case first =>
    cases text
    · have H1 : Hid (CW w w.heap.size n (opcM false) b ((w.alloc (.cells zpJ 32)).setRow w.heap.size (pcC false 2 false 0 none 0 0)) (.slice none 0 0) [] b false (opcM false) none 0 0) :=
        ⟨HR0.out, PL.nil _ _ _, fun x hx => (by cases hx), fun l hl => hl, by simp, HB0.out, Nat.le_refl _⟩
      clear HR0 HB0
      go_wp2_with fail
      go_meet
      exact H1
    · have hth := HR0.out.thawed 1
      have c1 : ((w.alloc (.cells zpJ 32)).setRow w.heap.size (pcC false 2 false 0 none 0 0)).cell? ⟨w.heap.size, 1, none⟩ = some (.int .u8 2) := HR0.out.cell rfl
      have H1 : Hid (CW w w.heap.size n (opcM true) b (((w.alloc (.cells zpJ 32)).setRow w.heap.size (pcC false 2 false 0 none 0 0)).setCell ⟨w.heap.size, 1, none⟩ (.int .u8 1)) (.slice none 0 0) [] b false (opcM true) none 0 0) :=
        ⟨HR0.out.stored 1 _, PL.nil _ _ _, fun x hx => (by cases hx), fun l hl => hl, by simp, HB0.out.setCell (p := ⟨w.heap.size, 1, none⟩) (Nat.le_refl _) _, Nat.le_refl _⟩
      clear HR0 HB0
      go_wp2_with fail
      go_meet
      exact H1
  case rest =>
    clear HR0 HB0
    obtain ⟨p, hp⟩ : ∃ p, p = w.heap.size := ⟨_, rfl⟩
    rw [← hp] at hcut ⊢
    have HPP := Lib.hid hp
    clear hp
    have HW1 := hcut
    clear hcut
    go_upto_region 6 with fail
    go_loopw [1, 8] (fun bs l wr => ∃ (rest : List UInt8) (A' : Option Addr) (c' : Nat) (L : List Pe) (op : Nat) (A9 : Option Addr) (m9 c9 : Nat), bs = .slice A' rest.length c' ∧ rest.length ≤ c' ∧ rest.length ≤ b.length ∧ Hid (RdB w w.heap.size A' rest) ∧ Hid (CW w p n (opcM text) b wr l L rest false op A9 m9 c9)) (fun bs _ _ => slM bs)
    case atStart => exact ⟨b, A, c, [], opcM text, none, 0, 0, rfl, HC.out, Nat.le_refl _, HR, HW1⟩
    case round =>
      clear HW1 HR HC
      obtain ⟨rest, A', c', L, op, A9, m9, c9, rfl, hc', hrl, HRR, HW⟩ := hrel
      by_cases hlt : n < rest.length
      · have hd : decide ((n : Int) < (rest.length : Int)) = true := decide_eq_true (by omega)
        have hd2 : decide (n < rest.length) = true := decide_eq_true hlt
        obtain ⟨hcu, hr1⟩ := HCU.out A' rest c' HRR.out hc' (Nat.le_of_lt hlt)
        obtain ⟨A2, hcf, hr2⟩ := HCF.out A' rest c' HRR.out hc' (Nat.le_of_lt hlt)
        have hln : (rest.take n).length = n := by rw [List.length_take]; omega
        have hl2 : (rest.drop n).length = rest.length - n := List.length_drop
        rw [← hl2] at hcf
        have HR2 := Lib.hid hr2
        have hcl := bcloneM (c := c') ((hr1.below HW.out.bl).more HW.out.bl.size) (Nat.le_refl _) (by rw [hln]; have := HL.out; omega)
        have HCN : Hid (∀ e : Pe, e.key3 = (op, false, rest.take n) → ∀ l, CutM n 0 (rest.drop n) l → CutM n (opcM text) b ((L ++ [e]).map Pe.key3 ++ l)) := fun e he => cut_next HW.out.cu hlt he
        have HLT : Hid ((rest.drop n).length < rest.length ∧ (rest.drop n).length ≤ c' - n ∧ (rest.drop n).length ≤ b.length ∧ (rest.drop n).length + n = rest.length ∧ 1 ≤ n) := ⟨by have := HN1.out; omega, by omega, by omega, by omega, HN1.out⟩
        rw [hln] at hcl
        obtain ⟨d, hdd⟩ : ∃ d, d = rest.take n := ⟨_, rfl⟩
        rw [← hdd] at hcl hln HCN
        have HDL := Lib.hid hln
        clear hr1 hr2 hl2 hdd hln hlt
        generalize rest.drop n = r2 at *
        go_upto_region 8 with fail
        go_wp2_with fail
        refine hcl.mono ?_
        rintro e w2 ⟨A3, c3, rfl, ho, hb⟩
        have hcap : n ≤ c3 := by
          obtain ⟨A7, c7, e7, h7⟩ := Bo.shape ho
          injection e7 with _ _ e8
          rw [e8, ← HDL.out]
          exact h7
        have HCAP := Lib.hid hcap
        have HW2 := Lib.hid (HW.out.below hb)
        have HO2 := Lib.hid ho
        have HGV : Hid (∀ k, ob (u8 : Value) k → k < wr.heap.size) := fun k hk => (OwS.lt HW.out.pl.own k hk).2
        have HPW : Hid (p < wr.heap.size ∧ w.heap.size ≤ wr.heap.size) := ⟨HW.out.pr.lt, HW.out.bl.size⟩
        have ht := HW2.out.pr.thawed 4
        have c4 : w2.cell? ⟨p, 4, none⟩ = some (.slice A9 m9 c9) := HW2.out.pr.cell rfl
        clear hcl hcu ho hb HW hcap
        go_upto_region 9 with fail
        have HW3 := Lib.hid (HW2.out.dat A3 n c3)
        have HO3 : Hid (Bo (w2.setCell ⟨p, 4, none⟩ (.slice A3 n c3)) wr.heap.size 5 (.slice A3 n c3) d) := OwS.setCell HO2.out (a := ⟨p, 4, none⟩) (Bo.neJ HO2.out HW2.out.pr (by decide)) _
        clear ht c4 HW2 HO2
        generalize w2.setCell ⟨p, 4, none⟩ (.slice A3 n c3) = w3 at *
        have HP3 : Hid (Row w3 p 32 (pcA ⟨false, op, false, 0, d⟩ A3 c3)) := by
          show Row _ _ _ (pcC false op false 0 A3 d.length c3)
          rw [HDL.out]
          exact HW3.out.pr
        have HBA : Hid (Below w3.heap.size w3 (w3.alloc (.cells (pcA ⟨false, op, false, 0, d⟩ A3 c3) 32))) := (Below.refl _ _).alloc (Nat.le_refl _) _
        have HRN : Hid (Row (w3.alloc (.cells (pcA ⟨false, op, false, 0, d⟩ A3 c3) 32)) w3.heap.size 32 (pcA ⟨false, op, false, 0, d⟩ A3 c3)) := Row.new _ _ _
        have HW4 := Lib.hid (HW3.out.below HBA.out)
        have HE4 : Hid (RdS (w3.alloc (.cells (pcA ⟨false, op, false, 0, d⟩ A3 c3) 32)) (fun k => k < (w3.alloc (.cells (pcA ⟨false, op, false, 0, d⟩ A3 c3) 32)).heap.size ∧ ¬ ob u8 k ∧ ¬ (k < w.heap.size ∨ k = p)) A3 (byc d)) :=
          (Bo.newS (Bo.below HO3.out HBA.out)).imp fun k hk _ => ⟨hk.2, fun h => by have := HGV.out k h; omega, fun h => by have := HPW.out; omega⟩
        have hLb : L.length ≤ 1000000 := by have := HW4.out.ln; have := HL.out; omega
        have hbs := HW4.out.bl.size
        have hXX : ∀ k, (k < w.heap.size ∨ k = p) → k < (w3.alloc (.cells (pcA ⟨false, op, false, 0, d⟩ A3 c3) 32)).heap.size := fun k hk => by have := HW4.out.pr.lt; omega
        have HLB := Lib.hid hLb
        have HBS := Lib.hid hbs
        have HXX := Lib.hid hXX
        clear hLb hbs hXX HO3
        go_upto_region 10 with (first
          | (refine wpList_ld rfl _ rfl rfl HP3.out (pcA_ok _ _ _) ?_)
          | (refine wpList_bsP (p := ⟨false, op, false, 0, d⟩) (A := A3) (c := c3) rfl _ rfl rfl ?_)
          | (at_builtin; go_loud (refine wpList_appP rfl _ _ rfl rfl HW4.out.pl ⟨⟨false, op, false, 0, d⟩, A3, c3⟩ w3.heap.size rfl HRN.out HE4.out HLB.out HBS.out HXX.out ?_; intro gv9 w9 h9 hf9 hn9; have H9 := Lib.hid h9; have HF9 := Lib.hid hf9; clear h9 hf9 hn9)))
        have ha := HW4.out.app H9.out HF9.out ⟨rfl, rfl, by show d.length ≤ c3; rw [HDL.out]; exact HCAP.out⟩ (HCN.out _ (by show (op, false, d) = _; rfl)) (rest' := r2) (by have h1 := HW4.out.ln; obtain ⟨_, _, _, h4, h5⟩ := HLT.out; simp only [List.length_append, List.length_cons, List.length_nil]; omega)
        have HR9 := Lib.hid ha.1
        have HN9 := Lib.hid ha.2
        clear ha HW4 HE4 HRN HBA HP3 HW3 HLB HBS HXX
        go_wp2_with (refine wpList_sw (cs := pcC false 0 false 0 none 0 0) rfl _ _ rfl rfl rfl HR9.out rfl (pc_ok _ _ _ _ _ _ _) ?_)
        go_roundw
        case rel => exact ⟨r2, A2, c' - n, _, 0, none, 0, 0, rfl, HLT.out.2.1, HLT.out.2.2.1, HR2, HN9.out none 0 0⟩
        case measure => exact HLT.out.1
      · have hd : decide ((n : Int) < (rest.length : Int)) = false := decide_eq_false (by omega)
        have hd2 : decide (n < rest.length) = false := decide_eq_false hlt
        have HLE : Hid (rest.length ≤ n ∧ rest.length ≤ 100000) := ⟨by omega, by have := HL.out; omega⟩
        have HW2 := Lib.hid (HW.out.flag true)
        have ht := HW.out.pr.thawed 0
        have c0 : wr.cell? ⟨p, 0, none⟩ = some (.bool false) := HW.out.pr.cell rfl
        clear HCF HCU hlt
        go_upto_region 12 with fail
        clear ht c0 HW hd hd2
        generalize wr.setCell ⟨p, 0, none⟩ (.bool true) = w2 at *
        have hcl := bcloneM (c := c') ((HRR.out.below HW2.out.bl).more HW2.out.bl.size) (Nat.le_refl _) (by have := HLE.out; omega)
        go_wp2_with fail
        refine hcl.mono ?_
        rintro e w3 ⟨A3, c3, rfl, ho, hb⟩
        have HCAP : Hid (rest.length ≤ c3) := by
          obtain ⟨A7, c7, e7, h7⟩ := Bo.shape ho
          injection e7 with _ _ e8
          show _ ≤ _
          rw [e8]
          exact h7
        have HW3 := Lib.hid (HW2.out.below hb)
        have HO3 := Lib.hid ho
        have HGV : Hid (∀ k, ob (u8 : Value) k → k < w2.heap.size) := fun k hk => (OwS.lt HW2.out.pl.own k hk).2
        have HPW : Hid (p < w2.heap.size ∧ w.heap.size ≤ w2.heap.size) := ⟨HW2.out.pr.lt, HW2.out.bl.size⟩
        have ht := HW3.out.pr.thawed 4
        have c4 : w3.cell? ⟨p, 4, none⟩ = some (.slice A9 m9 c9) := HW3.out.pr.cell rfl
        clear hcl ho hb HW2
        go_upto_region 13 with fail
        have HW4 := Lib.hid (HW3.out.dat A3 rest.length c3)
        have HO4 : Hid (Bo (w3.setCell ⟨p, 4, none⟩ (.slice A3 rest.length c3)) w2.heap.size 5 (.slice A3 rest.length c3) rest) := OwS.setCell HO3.out (a := ⟨p, 4, none⟩) (Bo.neJ HO3.out HW3.out.pr (by decide)) _
        clear ht c4 HW3 HO3
        generalize w3.setCell ⟨p, 4, none⟩ (.slice A3 rest.length c3) = w4 at *
        have HP4 : Hid (Row w4 p 32 (pcA ⟨true, op, false, 0, rest⟩ A3 c3)) := HW4.out.pr
        have HBA : Hid (Below w4.heap.size w4 (w4.alloc (.cells (pcA ⟨true, op, false, 0, rest⟩ A3 c3) 32))) := (Below.refl _ _).alloc (Nat.le_refl _) _
        have HRN : Hid (Row (w4.alloc (.cells (pcA ⟨true, op, false, 0, rest⟩ A3 c3) 32)) w4.heap.size 32 (pcA ⟨true, op, false, 0, rest⟩ A3 c3)) := Row.new _ _ _
        have HW5 := Lib.hid (HW4.out.below HBA.out)
        have HE5 : Hid (RdS (w4.alloc (.cells (pcA ⟨true, op, false, 0, rest⟩ A3 c3) 32)) (fun k => k < (w4.alloc (.cells (pcA ⟨true, op, false, 0, rest⟩ A3 c3) 32)).heap.size ∧ ¬ ob u8 k ∧ ¬ (k < w.heap.size ∨ k = p)) A3 (byc rest)) :=
          (Bo.newS (Bo.below HO4.out HBA.out)).imp fun k hk _ => ⟨hk.2, fun h => by have := HGV.out k h; omega, fun h => by have := HPW.out; omega⟩
        have HLB : Hid (L.length ≤ 1000000) := by show _ ≤ _; have := HW5.out.ln; have := HL.out; omega
        have HBS := Lib.hid HW5.out.bl.size
        have HXX : Hid (∀ k, (k < w.heap.size ∨ k = p) → k < (w4.alloc (.cells (pcA ⟨true, op, false, 0, rest⟩ A3 c3) 32)).heap.size) := fun k hk => by have := HW5.out.pr.lt; have := HW5.out.bl.size; omega
        clear HO4
        go_wp2_with (first
          | (refine wpList_ld rfl _ rfl rfl HP4.out (pcA_ok _ _ _) ?_)
          | (refine wpList_bsP (p := ⟨true, op, false, 0, rest⟩) (A := A3) (c := c3) rfl _ rfl rfl ?_)
          | (at_builtin; go_loud (refine wpList_appP rfl _ _ rfl rfl HW5.out.pl ⟨⟨true, op, false, 0, rest⟩, A3, c3⟩ w4.heap.size rfl HRN.out HE5.out HLB.out HBS.out HXX.out ?_; intro gv9 w9 h9 hf9 hn9; have H9 := Lib.hid h9; have HF9 := Lib.hid hf9; clear h9 hf9 hn9)))
        go_ret
        obtain ⟨A0, c0, rfl, _⟩ := H9.out.shape
        refine ⟨A0, c0, _, rfl, ?_, fun x hx => ?_, H9.out.sub fun k hk => .inl hk, HW5.out.bl.trans (HF9.out.below (fun k hk _ => (OwS.lt HW5.out.pl.own k hk).1) HW5.out.bl.size)⟩
        · rw [List.map_append]
          exact HW5.out.cu _ (.last HLE.out.1)
        · rcases List.mem_append.1 hx with hx | hx
          · exact HW5.out.ok x hx
          · rw [List.mem_singleton.1 hx]; exact ⟨rfl, rfl, HCAP.out⟩
end Go.Proofs.YtdegpchofhnipaaDoor
