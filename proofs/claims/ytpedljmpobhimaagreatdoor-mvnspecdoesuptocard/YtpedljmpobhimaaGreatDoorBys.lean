/-
  A row of bytes that the call itself has made: what '[]byte(s)' lays, what a store leaves, what 'string(b)' gives: for whatever program.
-/
import Derived.Test.YtpedljmpobhimaaGreatDoorPlain
import Derived.WalkKit
import Derived.Laws.IdiomStrings
import Derived.Lib.ConvBytes
namespace Go.Proofs.YtpedljmpobhimaaGreatDoor
open Go.RowKit

/-- Block b begins with the bytes l, and they can be written. -/
structure Bys (W : World) (b : Nat) (l : List UInt8) : Prop where
  cell : ∀ i, i < l.length → W.cell? ⟨b, i, none⟩ = some (.int .u8 ((l.getD i 0).toNat : Int))
  free : ∀ i, i < l.length → W.frozen? ⟨b, i, none⟩ = false

theorem bytesWorld_frozen (w : World) (e : TypeId) (s : ByteArray) (j : Nat) (hj : j < s.size) : (Lib.bytesWorld w e s).frozen? ⟨w.heap.size, j, none⟩ = false := by
  unfold World.frozen?
  rw [Lib.bytesWorld_at_new]
  have : s.size ≤ (Lib.bytesCells w e s).size := by
    unfold Lib.bytesCells
    rw [Array.size_append, Array.size_map]
    exact Nat.le_add_right _ _
  simp; omega

theorem Bys.conv (w : World) (e : TypeId) (s : ByteArray) : Bys (Lib.bytesWorld w e s) w.heap.size s.data.toList :=
  ⟨fun i hi => Lib.bytesWorld_cell w e s i (by rwa [len_data] at hi), fun i hi => bytesWorld_frozen w e s i (by rwa [len_data] at hi)⟩

theorem below_conv (w : World) (e : TypeId) (s : ByteArray) : Below w.heap.size w (Lib.bytesWorld w e s) := by
  refine ⟨rfl, rfl, rfl, ?_, fun k hk => Lib.bytesWorld_at_old w e s k hk⟩
  rw [Lib.bytesWorld_size]; omega

theorem Bys.set {W : World} {b : Nat} {l : List UInt8} (h : Bys W b l) (i : Nat) (hi : i < l.length) (v : Int) (c : UInt8) (hv : v = (c.toNat : Int)) :
    Bys (W.setCell ⟨b, i, none⟩ (.int .u8 v)) b (l.set i c) := by
  subst hv
  refine ⟨fun j hj => ?_, fun j hj => ?_⟩
  · rw [List.length_set] at hj
    by_cases e : j = i
    · subst e
      rw [World.cell?_setCell_same' _ _ _ (by rw [h.cell j hj]; rfl)]
      simp [List.getD, hj]
    · rw [World.cell?_setCell_other _ _ _ _ (by intro q; cases q; exact e rfl), h.cell j hj]
      simp [List.getD, Ne.symm e]
  · rw [List.length_set] at hj
    rw [World.frozen?_setCell]; exact h.free j hj

theorem Bys.drew {W : World} {b : Nat} {l : List UInt8} (h : Bys W b l) : Bys W.drew b l := ⟨h.cell, h.free⟩

theorem Bys.back {P : Program} {W : World} {b : Nat} {l : List UInt8} (h : Bys W b l) (src dst e : TypeId) (cap : Nat) (hs : P.underlying src = some (.slice e)) (he : P.underlying e = some (.int .u8)) (hd : P.underlying dst = some .string) :
    (convert src dst (.slice (some ⟨b, 0, none⟩) l.length cap)).run P W = .ok (.string (ofL l)) W := by
  refine run_convert_bytes_back W src dst e ⟨b, 0, none⟩ cap l hs he hd (fun j hj => ?_)
  have := h.cell j hj
  have ea : (Addr.add ⟨b, 0, none⟩ j) = ⟨b, j, none⟩ := by
    by_cases e0 : j = 0
    · subst e0; rfl
    · simp [Addr.add, e0]
  rw [ea, this]
  simp [List.getD, hj]

/-- The first j bytes turned by f. -/
def upTo (f : UInt8 → UInt8) (l : List UInt8) (j : Nat) : List UInt8 := (l.take j).map f ++ l.drop j
theorem upTo_len (f : UInt8 → UInt8) (l : List UInt8) (j : Nat) : (upTo f l j).length = l.length := by simp [upTo]; omega
theorem upTo_zero (f : UInt8 → UInt8) (l : List UInt8) : upTo f l 0 = l := by simp [upTo]
theorem upTo_all (f : UInt8 → UInt8) (l : List UInt8) : upTo f l l.length = l.map f := by simp [upTo]
theorem upTo_at (f : UInt8 → UInt8) (l : List UInt8) (j : Nat) (h : j < l.length) : (upTo f l j).getD j 0 = l.getD j 0 := by
  have e : ((l.take j).map f).length = j := by simp; omega
  simp only [upTo, List.getD]
  rw [List.getElem?_append_right (by omega), e]
  simp
theorem upTo_set (f : UInt8 → UInt8) (l : List UInt8) (j : Nat) (h : j < l.length) : (upTo f l j).set j (f (l.getD j 0)) = upTo f l (j + 1) := by
  have e : ((l.take j).map f).length = j := by simp; omega
  unfold upTo
  rw [List.set_append_right _ _ (by omega), e, Nat.sub_self, List.drop_eq_getElem_cons h, List.set_cons_zero, List.take_succ_eq_append_getElem h, List.map_append]
  simp [List.getD, h, -List.map_take]
theorem upTo_keep (f : UInt8 → UInt8) (l : List UInt8) (j : Nat) (h : j < l.length) (hf : f (l.getD j 0) = l.getD j 0) : upTo f l (j + 1) = upTo f l j := by
  rw [← upTo_set f l j h, hf, ← upTo_at f l j h]
  have hl : j < (upTo f l j).length := by rw [upTo_len]; exact h
  simp [List.getD, hl]

def lowC (c : UInt8) : UInt8 := if isC (c.toNat : Int) 3 then c + 32 else c
def digC (c : UInt8) : UInt8 := 48 + c % 10

end Go.Proofs.YtpedljmpobhimaaGreatDoor
