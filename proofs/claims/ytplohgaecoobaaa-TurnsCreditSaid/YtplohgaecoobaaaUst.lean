/-
  The document's streams and ring by value: their cells; what a call leaves that hands back a ring. No conditions but those that each theorem names.
-/
import Derived.Test.YtplohgaecoobaaaUm
import Derived.Test.YtplohgaecoobaaaSel
import Derived.Test.YtplohgaecoobaaaWrg
namespace Go.Proofs.Ytplohgaecoobaaa
open Go.RowKit Go.WideShapes

abbrev tb (l : List UInt8) : ByteArray := ⟨l.toArray⟩
/-- The cells of a stream. -/
def snc (x : Sn) : Array Value := #[.int .u32 x.st, .string (tb x.b), .bool x.en, .bool x.ov, .int .i64 x.lf, .bool true]
def snl (x : Sn) : List Value := (snc x).toList
/-- The cells of a ring. -/
def rrc (A : Option Addr) (n c : Nat) (f : Nat) (l : Int) : Array Value := #[.slice A n c, .int .i64 f, .int .i64 l, .bool false]
theorem snl_len (x : Sn) : (snl x).length = 6 := rfl
theorem snl_one (x : Sn) : ∀ u ∈ snl x, u.oneCell' = true := by
  intro u hu
  unfold snl snc at hu
  simp at hu
  rcases hu with rfl | rfl | rfl | rfl | rfl | rfl <;> rfl
theorem sn_size (x : Sn) : (snc x).size = 6 := rfl
theorem snl_c (x : Sn) : snl x = (snc x).toList := rfl
theorem sn_sz (x y : Sn) : (snc x).size = (snc y).size := rfl
theorem rr_sz (A : Option Addr) (n c f : Nat) (l : Int) (A' : Option Addr) (n' c' f' : Nat) (l' : Int) : (rrc A n c f l).size = (rrc A' n' c' f' l').size := rfl
theorem sn_info : (Try.prog.info? 40).map (·.size) = some 6 := by kernel_rfl
theorem rr_info : (Try.prog.info? 31).map (·.size) = some 4 := by kernel_rfl
theorem sn_ok (x : Sn) : AgOk Try.prog 40 (snc x) := ⟨⟨_, Try.underlying40⟩, sn_info, by unfold snc; kernel_rfl⟩
theorem rr_ok (A : Option Addr) (n c f : Nat) (l : Int) : AgOk Try.prog 31 (rrc A n c f l) := ⟨⟨_, Try.underlying31⟩, rr_info, by unfold rrc; kernel_rfl⟩
theorem sn_full : (Try.prog.info? 40).map (fun i => (i.zero, i.size, i.bytes)) = some (some (.agg #[.int .u32 0, .string ⟨#[]⟩, .bool false, .bool false, .int .i64 0, .bool false]), 6, 48) := by kernel_rfl
theorem info_parts {P : Program} {t : TypeId} {z : Value} {n b : Nat} (h : (P.info? t).map (fun i => (i.zero, i.size, i.bytes)) = some (some z, n, b)) : ∃ i, P.info? t = some i ∧ i.zero = some z ∧ i.size = n ∧ i.bytes = b := by
  cases hi : P.info? t with
  | none => rw [hi] at h; simp at h
  | some i => rw [hi] at h; simp at h; exact ⟨i, rfl, h.1, h.2.1, h.2.2⟩
section
variable {w w' : World} {g : Nat}
theorem rr_cells {A : Option Addr} {n c f : Nat} {l : Int} (h : Row w g 31 (rrc A n c f l)) : w.cell? ⟨g, 0, none⟩ = some (.slice A n c) ∧ w.cell? ⟨g, 1, none⟩ = some (.int .i64 f) ∧ w.cell? ⟨g, 2, none⟩ = some (.int .i64 l) ∧ w.cell? ⟨g, 3, none⟩ = some (.bool false) :=
  ⟨h.cell rfl, h.cell rfl, h.cell rfl, h.cell rfl⟩
theorem sn_cells {x : Sn} (h : Row w g 40 (snc x)) : w.cell? ⟨g, 0, none⟩ = some (.int .u32 x.st) ∧ w.cell? ⟨g, 1, none⟩ = some (.string (tb x.b)) ∧ w.cell? ⟨g, 2, none⟩ = some (.bool x.en) ∧ w.cell? ⟨g, 3, none⟩ = some (.bool x.ov) ∧ w.cell? ⟨g, 4, none⟩ = some (.int .i64 x.lf) ∧ w.cell? ⟨g, 5, none⟩ = some (.bool true) :=
  ⟨h.cell rfl, h.cell rfl, h.cell rfl, h.cell rfl, h.cell rfl, h.cell rfl⟩
/-- A stream within a list, cell by cell. -/
theorem sn_in {b q : Nat} {x : Sn} (h : w.rangeAt b q (snl x)) : w.cell? ⟨b, q, none⟩ = some (.int .u32 x.st) ∧ w.cell? ⟨b, q + 1, none⟩ = some (.string (tb x.b)) ∧ w.cell? ⟨b, q + 2, none⟩ = some (.bool x.en) ∧ w.cell? ⟨b, q + 3, none⟩ = some (.bool x.ov) ∧ w.cell? ⟨b, q + 4, none⟩ = some (.int .i64 x.lf) :=
  ⟨h 0 _ rfl, h 1 _ rfl, h 2 _ rfl, h 3 _ rfl, h 4 _ rfl⟩
/-- A ring that is read: its streams. -/
structure Rg (w : World) (A : Option Addr) (c : Nat) (L : List Sn) : Prop where
  rd : RdS w (· < w.heap.size) A (enl snl L)
  len : L.length ≤ c
  bd : L.length ≤ 1000000
theorem Rg.up {A : Option Addr} {c : Nat} {L : List Sn} (h : Rg w A c L) (hb : Below w.heap.size w w') : Rg w' A c L := ⟨h.rd.up hb, h.len, h.bd⟩
theorem Rg.at {A : Option Addr} {c : Nat} {L : List Sn} (h : Rg w A c L) {i : Nat} (hi : i < L.length) : ∃ b q, A = some ⟨b, q, none⟩ ∧ b < w.heap.size ∧ w.rangeAt b (q + i * 6) (snl L[i]) := h.rd.elem snl_len hi (by omega)
end
/-- A ring whose streams lie behind block B. -/
structure Rn (w : World) (B : Nat) (A : Option Addr) (c : Nat) (L : List Sn) : Prop where
  rd : RdS w (fun b => B ≤ b ∧ b < w.heap.size) A (enl snl L)
  len : L.length ≤ c
  bd : L.length ≤ 1000000
theorem Rn.rg {w : World} {B : Nat} {A : Option Addr} {c : Nat} {L : List Sn} (h : Rn w B A c L) : Rg w A c L := ⟨h.rd.imp fun _ hg _ => hg.2, h.len, h.bd⟩
theorem Rn.mono {w : World} {B B' : Nat} {A : Option Addr} {c : Nat} {L : List Sn} (h : Rn w B A c L) (hb : B' ≤ B) : Rn w B' A c L := ⟨h.rd.imp fun _ hg _ => ⟨Nat.le_trans hb hg.1, hg.2⟩, h.len, h.bd⟩
theorem Rn.below {w w' : World} {B : Nat} {A : Option Addr} {c : Nat} {L : List Sn} (h : Rn w B A c L) (hb : Below w.heap.size w w') : Rn w' B A c L := ⟨(h.rd.keep fun g hg => hb.block g hg.2).imp fun _ hg _ => ⟨hg.1, Nat.lt_of_lt_of_le hg.2 hb.size⟩, h.len, h.bd⟩
theorem Rn.setRow {w : World} {B : Nat} {A : Option Addr} {c : Nat} {L : List Sn} (h : Rn w B A c L) {k : Nat} (hk : k < B) (x : Array Value) : Rn (w.setRow k x) B A c L :=
  ⟨(h.rd.keep fun g hg => setRow_other w k g x (by omega)).imp fun _ hg _ => ⟨hg.1, by simpa using hg.2⟩, h.len, h.bd⟩
theorem Rn.setCell {w : World} {B : Nat} {A : Option Addr} {c : Nat} {L : List Sn} (h : Rn w B A c L) {k : Nat} (hk : k < B) (j : Nat) (x : Value) : Rn (w.setCell ⟨k, j, none⟩ x) B A c L :=
  ⟨(h.rd.keep fun g hg => Below.heap_setCell w ⟨k, j, none⟩ x g (by show g ≠ k; omega)).imp fun _ hg _ => ⟨hg.1, by simpa [World.setCell] using hg.2⟩, h.len, h.bd⟩
/-- What a call leaves that hands back a ring: its streams are new. -/
def MadeR (w : World) (L : List Sn) (f : Nat) (l : Int) (e : Ending) (w' : World) : Prop :=
  ∃ A c, e = .returned (.agg (rrc A L.length c f l)) ∧ Rn w' w.heap.size A c L ∧ Below w.heap.size w w'
/-- .. beside another answer. -/
def MadeR2 (w : World) (L : List Sn) (f : Nat) (l : Int) (v : Value) (e : Ending) (w' : World) : Prop :=
  ∃ A c, e = .returned (.tuple #[.agg (rrc A L.length c f l), v]) ∧ Rn w' w.heap.size A c L ∧ Below w.heap.size w w'
/-- An append of streams onto a list that the call made. -/
theorem app_sn {ops : Array Oper} {rest : List Oper} {o : Oper} {a : Act} {w : World} {Q : Exit → Act → World → Prop} (hgd : o.guard = none) (s x : Operand)
    (ho : o.op = .call { callee := .builtin .append, args := #[s, x], argTypes := #[27, 27] }) {base : Nat} {A' : Option Addr} {n c' : Nat} {L1 : List Sn} (hs : a.eval s = .slice A' n c') (hO : OwS w base 40 6 (.slice A' n c') n (enl snl L1))
    {A : Option Addr} {m c : Nat} {L2 : List Sn} {S : Nat → Prop} (hx : a.eval x = .slice A m c) (hm : m = L2.length) (hr : RdS w S A (enl snl L2)) (hbd : n + m ≤ 4000000) (hbase : base ≤ w.heap.size)
    (h : ∀ A2 c2 w2, OwS w2 base 40 6 (.slice A2 (n + m) c2) (n + m) (enl snl (L1 ++ L2)) → Fs (ob (.slice A' n c')) w w2 →
      ((Value.slice A2 (n + m) c2).ownBlock = (Value.slice A' n c').ownBlock ∨ (Value.slice A2 (n + m) c2).ownBlock = some w.heap.size) → wpList Try.prog ops Q rest (a.put o.dst (.slice A2 (n + m) c2)) w2) : wpList Try.prog ops Q (o :: rest) a w := by
  obtain ⟨i0, hi0, hz0, hz1, hz2⟩ := info_parts sn_full
  refine wpList_appS_any hgd s x 27 ho base 40 i0 _ 6 48 Try.underlying27 hi0 hz0 hz1 hz2 rfl (by omega) (.slice A' n c') n (enl snl L1) hs hO S A m c (enl snl L2) hx (by rw [enl_length snl_len, hm]) hr (enl_oneCell snl_one _) (by simp only [maxLen]; omega) (by omega) hbase ?_
  intro A2 c2 w2 h1 h2 h3
  rw [← enl_append] at h1
  exact h A2 c2 w2 h1 (Fs.of_grown h2) h3
/-- A store of a whole struct into the middle of a block. -/
theorem wpList_swm {P : Program} {T : TypeId} {cs : Array Value} {ops : Array Oper} {rest : List Oper} {o : Oper} {a : Act} {w : World} {Q : Exit → Act → World → Prop} (hgd : o.guard = none) (p q : Operand) (ho : o.op = .store T p q) {b i : Nat} (hp : a.eval p = .pointer (some ⟨b, i, none⟩)) (hv : a.eval q = .agg cs) (ht : w.there b i cs.size) (hk : AgOk P T cs)
    (hq : wpList P ops Q rest (a.put o.dst undef) (w.setCells b i cs.toList)) : wpList P ops Q (o :: rest) a w :=
  wpList_store_mid hgd T p q ho b i cs hp hv ht hk.s hk.o hq
theorem three_ref (w : World) (a b c : Array Value) (T U V : TypeId) : ∃ w', ((w.alloc (.cells a T)).alloc (.cells b U)).alloc (.cells c V) = w' ∧ Row w' w.heap.size T a ∧ Row w' (w.heap.size + 1) U b ∧ Row w' (w.heap.size + 2) V c ∧ Below w.heap.size w w' ∧ w'.heap.size = w.heap.size + 3 :=
  ⟨_, rfl, ((Row.new w _ _).alloc _).alloc _, (Row.made _ _ _ (by simp)).alloc _, Row.made _ _ _ (by simp), (((Below.refl _ _).alloc (Nat.le_refl _) _).alloc (by simp) _).alloc (by simp; omega) _, by simp⟩
theorem two_ref (w : World) (a b : Array Value) (T U : TypeId) : ∃ w', (w.alloc (.cells a T)).alloc (.cells b U) = w' ∧ Row w' w.heap.size T a ∧ Row w' (w.heap.size + 1) U b ∧ Below w.heap.size w w' ∧ w'.heap.size = w.heap.size + 2 :=
  ⟨_, rfl, (Row.new w _ _).alloc _, Row.made _ _ _ (by simp), ((Below.refl _ _).alloc (Nat.le_refl _) _).alloc (by simp) _, by simp⟩
/-- A list without elements that was just laid. -/
theorem own_none (w : World) : OwS (w.alloc (.cells #[] 40)) w.heap.size 40 6 (.slice (some ⟨w.heap.size, 0, none⟩) 0 0) 0 (enl snl []) := OwS.lit (base := w.heap.size) w 40 6 0 #[] rfl (by simp [maxLen]) (Nat.le_refl _)
theorem own_lt {w : World} {base : Nat} {A : Option Addr} {n c : Nat} {cs : List Value} (h : OwS w base 40 6 (.slice A n c) n cs) : ∀ k, ob (.slice A n c) k → base ≤ k ∧ k < w.heap.size := fun k hk => OwS.lt h k hk
/-- What the call made is read. -/
theorem Rn.of {w : World} {base : Nat} {A : Option Addr} {n c : Nat} {L : List Sn} (h : OwS w base 40 6 (.slice A n c) n (enl snl L)) (hn : n = L.length) (hb : L.length ≤ 1000000) : Rn w base A c L := by
  obtain ⟨_, _, e, h1, _⟩ := h.shape
  injection e with _ _ e
  subst e
  exact ⟨OwS.up h, by omega, hb⟩
theorem rr_zero : #[Value.slice none 0 0, .int .i64 0, .int .i64 0, .bool false] = rrc none 0 0 0 0 := rfl
theorem rr_set0 {w : World} {g : Nat} {A A' : Option Addr} {n n' c c' f : Nat} {l : Int} (h : Row w g 31 (rrc A n c f l)) : Row (w.setCell ⟨g, 0, none⟩ (.slice A' n' c')) g 31 (rrc A' n' c' f l) := h.stored 0 _
theorem rr_set1 {w : World} {g : Nat} {A : Option Addr} {n c f f' : Nat} {l : Int} (h : Row w g 31 (rrc A n c f l)) : Row (w.setCell ⟨g, 1, none⟩ (.int .i64 f')) g 31 (rrc A n c f' l) := h.stored 1 _
theorem rr_set2 {w : World} {g : Nat} {A : Option Addr} {n c f : Nat} {l l' : Int} (h : Row w g 31 (rrc A n c f l)) : Row (w.setCell ⟨g, 2, none⟩ (.int .i64 l')) g 31 (rrc A n c f l') := h.stored 2 _
/-- The ring's variable gets the list that the call made. -/
theorem fin_set {w wa w8 : World} {p N c8 n c f : Nat} {l : Int} {A A8 : Option Addr} {L' : List Sn} (hO : OwS w8 p 40 6 (.slice A8 N c8) N (enl snl L')) (hN : N = L'.length) (hb : L'.length ≤ 1000000) (hB : Below p wa w8) (hW : Below w.heap.size w wa) (hp : w.heap.size + 1 < p)
    (h1 : Row wa w.heap.size 31 (rrc A n c f l)) (h2 : Row wa (w.heap.size + 1) 31 (rrc none 0 0 0 0)) :
    ∃ w9, w8.setCell ⟨w.heap.size, 0, none⟩ (.slice A8 N c8) = w9 ∧ Row w9 w.heap.size 31 (rrc A8 N c8 f l) ∧ Row w9 (w.heap.size + 1) 31 (rrc none 0 0 0 0) ∧ Rn w9 p A8 c8 L' ∧ Below w.heap.size w w9 :=
  ⟨_, rfl, rr_set0 (h1.below hB (by omega)), (h2.below hB hp).stored' (by simp) _, (Rn.of hO hN hb).setCell (by omega) _ _, (hW.trans (hB.mono (by omega))).setCell (Nat.le_refl _) _⟩
end Go.Proofs.Ytplohgaecoobaaa
