/-
  Walks: the document's reader of one range, all its ways.
-/
import Derived.Test.YtpedljmpobhimaaGreatDoorJh
import Derived.Test.YtpedljmpobhimaaGreatDoorJi
import Derived.Test.YtpedljmpobhimaaGreatDoorJj
import Derived.Deep.RegionHeld3
namespace Go.Proofs.YtpedljmpobhimaaGreatDoor
open Go.RowKit Go.Shelf
set_option linter.unusedVariables false

/-- Where the fault lies. -/
def onP (a : Nat) (r : List UInt8) : Int := if (oneD r).err = 0 then 0 else ((a + (oneD r).k : Nat) : Int)
theorem onP_bad {a q : Nat} {r : List UInt8} {e : Int} (he : (oneD r).err = e) (hne : e ≠ 0) (hq : a + (oneD r).k = q) : onP a r = (q : Int) := by
  unfold onP
  rw [if_neg (by rw [he]; exact hne), hq]
theorem onP_ok {a : Nat} {r : List UInt8} (he : (oneD r).err = 0) : onP a r = 0 := by
  unfold onP
  rw [if_pos he]
theorem post_to {w : World} {B : Nat} {s : ByteArray} {e e' p p' : Int} {m m' : Mr} {q q' : Nat} (he : e = e') (hp : p = p') (hm : e = 0 → m = m' ∧ q = q') {r : Ending} {W : World} (h : OnePost w B s e p m q r W) : OnePost w B s e' p' m' q' r W := by
  subst he hp
  obtain ⟨m1, q1, h1, h2, h3, h4, h5⟩ := h
  exact ⟨m1, q1, h1, h2, h3, h4, fun e0 => ⟨(h5 e0).1.trans (hm e0).1, (h5 e0).2.trans (hm e0).2⟩⟩

theorem RoneR_bad (B : Nat) (s : ByteArray) (a : Nat) (e p : Int) (w : World) (h : DrAt w B s a e p) (hs : s.size ≤ 256) (ha : a < s.size) (he : e ≠ 0) (hb : hdIn [91] (s.data.toList.drop a) = true ∨ hdIn [40] (s.data.toList.drop a) = true) :
    Calls Tryz.prog 53 #[.pointer (some ⟨B, 0, none⟩)] w (OnePost w B s e p noM 0) := by
  have hE : ∀ b, vE b e = e := by intro b; unfold vE fe; cases b <;> simp [he]
  have hP : ∀ b x, vP b e x p = p := by intro b x; unfold vP fp; cases b <;> simp [he]
  cases hx : hdIn [91] (s.data.toList.drop a) with
  | true => exact one_L1t B s a e p e p w h hs ha hx (hE _) (hP _ _) he
  | false =>
    rcases hb with hb | hb
    · rw [hx] at hb; cases hb
    · exact one_L1f B s a e p e p w h hs ha hx hb (hE _) (hP _ _) he

theorem RoneR_any (B : Nat) (s : ByteArray) (a : Nat) (w : World) (h : DrAt w B s a 0 0) (hs : s.size ≤ 256) (ha : a ≤ s.size) :
    Calls Tryz.prog 53 #[.pointer (some ⟨B, 0, none⟩)] w (OnePost w B s (oneD (s.data.toList.drop a)).err (onP a (s.data.toList.drop a)) (oneD (s.data.toList.drop a)).m (a + (oneD (s.data.toList.drop a)).k)) := by
  by_cases hbr : hdIn [91] (s.data.toList.drop a) = false ∧ hdIn [40] (s.data.toList.drop a) = false
  · have h0 := one_none hbr.1 hbr.2
    have e1 : (oneD (s.data.toList.drop a)).err = misR (s.data.toList.drop a) := by rw [h0]
    have e2 : a + (oneD (s.data.toList.drop a)).k = a := by rw [h0]; rfl
    exact (one_L0 B s a w h hs ha hbr.1 hbr.2).mono fun r W hp => post_to e1.symm (onP_bad e1 (misR_ne _) e2).symm (fun e => absurd e (misR_ne _)) hp
  · have hb : hdIn [91] (s.data.toList.drop a) = true ∨ hdIn [40] (s.data.toList.drop a) = true := by
      cases h1 : hdIn [91] (s.data.toList.drop a) with
      | true => exact .inl rfl
      | false =>
        cases h2 : hdIn [40] (s.data.toList.drop a) with
        | true => exact .inr rfl
        | false => exact absurd ⟨h1, h2⟩ hbr
    have hlt : a < s.size := by
      rcases hb with hb | hb <;> (have := hdIn_lt hb; rwa [len_data] at this)
    obtain ⟨LI, hLI⟩ : ∃ x, hdIn [91] (s.data.toList.drop a) = x := ⟨_, rfl⟩
    have hLF : LI = false → hdIn [40] (s.data.toList.drop a) = true := by
      intro e
      rcases hb with hb | hb
      · rw [hb] at hLI; rw [← hLI] at e; cases e
      · exact hb
    cases b1 : vBad (s.data.toList.drop (a + 1)) with
    | true =>
      obtain ⟨e1, e2⟩ := one_bad1 s.data.toList a hb b1
      have hE : vE (vBad (s.data.toList.drop (a + 1))) 0 = 19 := by rw [b1]; rfl
      have hP : vP (vBad (s.data.toList.drop (a + 1))) 0 (a + 1 + blN (s.data.toList.drop (a + 1))) 0 = ((a + 1 + blN (s.data.toList.drop (a + 1)) : Nat) : Int) := by rw [b1]; rfl
      cases LI with
      | true => exact (one_L1t B s a 0 0 19 _ w h hs hlt hLI hE hP (by decide)).mono fun r W hp => post_to e1.symm (onP_bad e1 (by decide) e2).symm (fun e => absurd e (by decide)) hp
      | false => exact (one_L1f B s a 0 0 19 _ w h hs hlt hLI (hLF rfl) hE hP (by decide)).mono fun r W hp => post_to e1.symm (onP_bad e1 (by decide) e2).symm (fun e => absurd e (by decide)) hp
    | false =>
      obtain ⟨p1, hp1⟩ : ∃ p1, a + 1 + vK (s.data.toList.drop (a + 1)) = p1 := ⟨_, rfl⟩
      have hl1 : p1 ≤ s.size := by
        have := vK_le (s.data.toList.drop (a + 1))
        rw [List.length_drop, len_data] at this
        omega
      have hap : a ≤ p1 := by omega
      obtain ⟨V1, hV1⟩ : ∃ V, verAt (s.data.toList.drop (a + 1)) = V := ⟨_, rfl⟩
      obtain ⟨H1, hH1⟩ : ∃ H, decide (V1 ≠ []) = H := ⟨_, rfl⟩
      cases x3 : hdIn [44] (s.data.toList.drop p1) with
      | true =>
        have hl2 : p1 < s.size := by have := hdIn_lt x3; rwa [len_data] at this
        obtain ⟨p2, hp2⟩ : ∃ p2, p1 + 1 + vK (s.data.toList.drop (p1 + 1)) = p2 := ⟨_, rfl⟩
        have hl3 : p2 ≤ s.size := by
          have := vK_le (s.data.toList.drop (p1 + 1))
          rw [List.length_drop, len_data] at this
          omega
        have hap2 : a ≤ p2 := by omega
        obtain ⟨V2, hV2⟩ : ∃ V, verAt (s.data.toList.drop (p1 + 1)) = V := ⟨_, rfl⟩
        obtain ⟨H2, hH2⟩ : ∃ H, decide (V2 ≠ []) = H := ⟨_, rfl⟩
        cases b2 : vBad (s.data.toList.drop (p1 + 1)) with
        | true =>
          obtain ⟨e1, e2⟩ := one_bad2 s.data.toList a p1 hb b1 hp1.symm x3 b2
          cases LI with
          | true => exact (one_L2t B s a p1 V1 H1 p2 V2 H2 w h hs hlt hLI b1 hV1 hH1 hp1 hl1 x3 hl2 b2 hV2 hH2 hp2 hl3).mono fun r W hp => post_to e1.symm (onP_bad e1 (by decide) e2).symm (fun e => absurd e (by decide)) hp
          | false => exact (one_L2f B s a p1 V1 H1 p2 V2 H2 w h hs hlt hLI (hLF rfl) b1 hV1 hH1 hp1 hl1 x3 hl2 b2 hV2 hH2 hp2 hl3).mono fun r W hp => post_to e1.symm (onP_bad e1 (by decide) e2).symm (fun e => absurd e (by decide)) hp
        | false =>
          have hone := one_comma s.data.toList a p1 p2 hb b1 hp1.symm x3 b2 hp2.symm
          rw [hV1, hV2] at hone
          by_cases hcl : hdIn [93] (s.data.toList.drop p2) = false ∧ hdIn [41] (s.data.toList.drop p2) = false
          · obtain ⟨e1, e2⟩ := cl_none s.data.toList a V1 V2 true p2 hap2 hcl.1 hcl.2
            rw [← hone] at e1 e2
            cases LI with
            | true => exact (one_L3t B s a p1 V1 H1 p2 V2 H2 w h hs hlt hLI b1 hV1 hH1 hp1 hl1 x3 hl2 b2 hV2 hH2 hp2 hl3 hcl.1 hcl.2).mono fun r W hp => post_to e1.symm (onP_bad e1 (misR_ne _) e2).symm (fun e => absurd e (misR_ne _)) hp
            | false => exact (one_L3f B s a p1 V1 H1 p2 V2 H2 w h hs hlt hLI (hLF rfl) b1 hV1 hH1 hp1 hl1 x3 hl2 b2 hV2 hH2 hp2 hl3 hcl.1 hcl.2).mono fun r W hp => post_to e1.symm (onP_bad e1 (misR_ne _) e2).symm (fun e => absurd e (misR_ne _)) hp
          · have hc : hdIn [93] (s.data.toList.drop p2) = true ∨ hdIn [41] (s.data.toList.drop p2) = true := by
              cases h1 : hdIn [93] (s.data.toList.drop p2) with
              | true => exact .inl rfl
              | false =>
                cases h2 : hdIn [41] (s.data.toList.drop p2) with
                | true => exact .inr rfl
                | false => exact absurd ⟨h1, h2⟩ hcl
            have hl4 : p2 < s.size := by
              rcases hc with hc | hc <;> (have := hdIn_lt hc; rwa [len_data] at this)
            obtain ⟨HI, hHI⟩ : ∃ x, hdIn [93] (s.data.toList.drop p2) = x := ⟨_, rfl⟩
            have hHF : HI = false → hdIn [41] (s.data.toList.drop p2) = true := by
              intro e
              rcases hc with hc | hc
              · rw [hc] at hHI; rw [← hHI] at e; cases e
              · exact hc
            obtain ⟨c1, c2⟩ := cl_some s.data.toList a V1 V2 true p2 hap2 hc ⟨H1, V1, LI, H2, V2, HI⟩ (by rw [hH1, hH2, hLI, hHI])
            rw [← hone] at c1 c2
            obtain ⟨C, hC⟩ : ∃ C, cmpT V1 V2 = C := ⟨_, rfl⟩
            have hri : ∀ b, risesL ⟨H1, V1, LI, H2, V2, HI⟩ = b → ((!true && !decide (V1 ≠ [])) || !risesL ⟨H1, V1, LI, H2, V2, HI⟩) = !b := by intro b e; rw [e]; rfl
            have hrv : risesL ⟨H1, V1, LI, H2, V2, HI⟩ = (!H1 || !H2 || (decide (C < 0) || (decide (C = 0) && (LI && HI)))) := by rw [← hC]; rfl
            have good : (!H1 || !H2 || (decide (C < 0) || (decide (C = 0) && (LI && HI)))) = true → Calls Tryz.prog 53 #[.pointer (some ⟨B, 0, none⟩)] w (OnePost w B s 0 0 ⟨H1, V1, LI, H2, V2, HI⟩ (p2 + 1)) → Calls Tryz.prog 53 #[.pointer (some ⟨B, 0, none⟩)] w (OnePost w B s (oneD (s.data.toList.drop a)).err (onP a (s.data.toList.drop a)) (oneD (s.data.toList.drop a)).m (a + (oneD (s.data.toList.drop a)).k)) := by
              intro hr hcall
              obtain ⟨d1, d2, d3⟩ := c2 (hri true (hrv.trans hr))
              exact hcall.mono fun r W hp => post_to d1.symm (onP_ok d1).symm (fun _ => ⟨d3.symm, d2.symm⟩) hp
            have bad : (!H1 || !H2 || (decide (C < 0) || (decide (C = 0) && (LI && HI)))) = false → Calls Tryz.prog 53 #[.pointer (some ⟨B, 0, none⟩)] w (OnePost w B s 21 (a : Int) noM 0) → Calls Tryz.prog 53 #[.pointer (some ⟨B, 0, none⟩)] w (OnePost w B s (oneD (s.data.toList.drop a)).err (onP a (s.data.toList.drop a)) (oneD (s.data.toList.drop a)).m (a + (oneD (s.data.toList.drop a)).k)) := by
              intro hr hcall
              obtain ⟨d1, d2⟩ := c1 (hri false (hrv.trans hr))
              exact hcall.mono fun r W hp => post_to d1.symm (onP_bad d1 (by decide) d2).symm (fun e => absurd e (by decide)) hp
            cases H1 with
            | false =>
              cases LI <;> cases HI
              · exact good (by simp) (one_L4fff B s a p1 V1 p2 V2 H2 w h hs hlt hLI (hLF rfl) b1 hV1 hH1 hp1 hl1 x3 hl2 b2 hV2 hH2 hp2 hl3 hl4 hHI (hHF rfl))
              · exact good (by simp) (one_L4ftf B s a p1 V1 p2 V2 H2 w h hs hlt hLI (hLF rfl) b1 hV1 hH1 hp1 hl1 x3 hl2 b2 hV2 hH2 hp2 hl3 hl4 hHI)
              · exact good (by simp) (one_L4tff B s a p1 V1 p2 V2 H2 w h hs hlt hLI b1 hV1 hH1 hp1 hl1 x3 hl2 b2 hV2 hH2 hp2 hl3 hl4 hHI (hHF rfl))
              · exact good (by simp) (one_L4ttf B s a p1 V1 p2 V2 H2 w h hs hlt hLI b1 hV1 hH1 hp1 hl1 x3 hl2 b2 hV2 hH2 hp2 hl3 hl4 hHI)
            | true =>
              cases H2 with
              | false =>
                cases LI <;> cases HI
                · exact good (by simp) (one_L4fftf B s a p1 V1 p2 V2 w h hs hlt hLI (hLF rfl) b1 hV1 hH1 hp1 hl1 x3 hl2 b2 hV2 hH2 hp2 hl3 hl4 hHI (hHF rfl))
                · exact good (by simp) (one_L4fttf B s a p1 V1 p2 V2 w h hs hlt hLI (hLF rfl) b1 hV1 hH1 hp1 hl1 x3 hl2 b2 hV2 hH2 hp2 hl3 hl4 hHI)
                · exact good (by simp) (one_L4tftf B s a p1 V1 p2 V2 w h hs hlt hLI b1 hV1 hH1 hp1 hl1 x3 hl2 b2 hV2 hH2 hp2 hl3 hl4 hHI (hHF rfl))
                · exact good (by simp) (one_L4tttf B s a p1 V1 p2 V2 w h hs hlt hLI b1 hV1 hH1 hp1 hl1 x3 hl2 b2 hV2 hH2 hp2 hl3 hl4 hHI)
              | true =>
                rcases Int.lt_trichotomy C 0 with hc0 | hc0 | hc0
                · have q1 : decide (C < 0) = true := by simpa using hc0
                  cases LI <;> cases HI
                  · exact good (by rw [q1]; rfl) (one_L4ffttlt B s a p1 V1 p2 V2 C w h hs hlt hLI (hLF rfl) b1 hV1 hH1 hp1 hl1 x3 hl2 b2 hV2 hH2 hp2 hl3 hl4 hHI (hHF rfl) hC hc0)
                  · exact good (by rw [q1]; rfl) (one_L4ftttlt B s a p1 V1 p2 V2 C w h hs hlt hLI (hLF rfl) b1 hV1 hH1 hp1 hl1 x3 hl2 b2 hV2 hH2 hp2 hl3 hl4 hHI hC hc0)
                  · exact good (by rw [q1]; rfl) (one_L4tfttlt B s a p1 V1 p2 V2 C w h hs hlt hLI b1 hV1 hH1 hp1 hl1 x3 hl2 b2 hV2 hH2 hp2 hl3 hl4 hHI (hHF rfl) hC hc0)
                  · exact good (by rw [q1]; rfl) (one_L4ttttlt B s a p1 V1 p2 V2 C w h hs hlt hLI b1 hV1 hH1 hp1 hl1 x3 hl2 b2 hV2 hH2 hp2 hl3 hl4 hHI hC hc0)
                · have q1 : decide (C < 0) = false := by simp; omega
                  have q2 : decide (C = 0) = true := by simpa using hc0
                  cases LI <;> cases HI
                  · exact bad (by rw [q1, q2]; rfl) (one_L4fftteq B s a p1 V1 p2 V2 C w h hs hlt hLI (hLF rfl) b1 hV1 hH1 hp1 hl1 x3 hl2 b2 hV2 hH2 hp2 hl3 hl4 hHI (hHF rfl) hC hc0)
                  · exact bad (by rw [q1, q2]; rfl) (one_L4fttteq B s a p1 V1 p2 V2 C w h hs hlt hLI (hLF rfl) b1 hV1 hH1 hp1 hl1 x3 hl2 b2 hV2 hH2 hp2 hl3 hl4 hHI hC hc0)
                  · exact bad (by rw [q1, q2]; rfl) (one_L4tftteq B s a p1 V1 p2 V2 C w h hs hlt hLI b1 hV1 hH1 hp1 hl1 x3 hl2 b2 hV2 hH2 hp2 hl3 hl4 hHI (hHF rfl) hC hc0)
                  · exact good (by rw [q1, q2]; rfl) (one_L4tttteq B s a p1 V1 p2 V2 C w h hs hlt hLI b1 hV1 hH1 hp1 hl1 x3 hl2 b2 hV2 hH2 hp2 hl3 hl4 hHI hC hc0)
                · have q1 : decide (C < 0) = false := by simp; omega
                  have q2 : decide (C = 0) = false := by simp; omega
                  cases LI <;> cases HI
                  · exact bad (by rw [q1, q2]; rfl) (one_L4ffttgt B s a p1 V1 p2 V2 C w h hs hlt hLI (hLF rfl) b1 hV1 hH1 hp1 hl1 x3 hl2 b2 hV2 hH2 hp2 hl3 hl4 hHI (hHF rfl) hC hc0)
                  · exact bad (by rw [q1, q2]; rfl) (one_L4ftttgt B s a p1 V1 p2 V2 C w h hs hlt hLI (hLF rfl) b1 hV1 hH1 hp1 hl1 x3 hl2 b2 hV2 hH2 hp2 hl3 hl4 hHI hC hc0)
                  · exact bad (by rw [q1, q2]; rfl) (one_L4tfttgt B s a p1 V1 p2 V2 C w h hs hlt hLI b1 hV1 hH1 hp1 hl1 x3 hl2 b2 hV2 hH2 hp2 hl3 hl4 hHI (hHF rfl) hC hc0)
                  · exact bad (by rw [q1, q2]; rfl) (one_L4ttttgt B s a p1 V1 p2 V2 C w h hs hlt hLI b1 hV1 hH1 hp1 hl1 x3 hl2 b2 hV2 hH2 hp2 hl3 hl4 hHI hC hc0)
      | false =>
        have hone := one_plain s.data.toList a p1 hb b1 hp1.symm x3
        rw [hV1] at hone
        by_cases hcl : hdIn [93] (s.data.toList.drop p1) = false ∧ hdIn [41] (s.data.toList.drop p1) = false
        · obtain ⟨e1, e2⟩ := cl_none s.data.toList a V1 V1 false p1 hap hcl.1 hcl.2
          rw [← hone] at e1 e2
          cases LI with
          | true => exact (one_L5t B s a p1 V1 H1 w h hs hlt hLI b1 hV1 hH1 hp1 hl1 x3 hcl.1 hcl.2).mono fun r W hp => post_to e1.symm (onP_bad e1 (misR_ne _) e2).symm (fun e => absurd e (misR_ne _)) hp
          | false => exact (one_L5f B s a p1 V1 H1 w h hs hlt hLI (hLF rfl) b1 hV1 hH1 hp1 hl1 x3 hcl.1 hcl.2).mono fun r W hp => post_to e1.symm (onP_bad e1 (misR_ne _) e2).symm (fun e => absurd e (misR_ne _)) hp
        · have hc : hdIn [93] (s.data.toList.drop p1) = true ∨ hdIn [41] (s.data.toList.drop p1) = true := by
            cases h1 : hdIn [93] (s.data.toList.drop p1) with
            | true => exact .inl rfl
            | false =>
              cases h2 : hdIn [41] (s.data.toList.drop p1) with
              | true => exact .inr rfl
              | false => exact absurd ⟨h1, h2⟩ hcl
          have hl4 : p1 < s.size := by
            rcases hc with hc | hc <;> (have := hdIn_lt hc; rwa [len_data] at this)
          obtain ⟨HI, hHI⟩ : ∃ x, hdIn [93] (s.data.toList.drop p1) = x := ⟨_, rfl⟩
          have hHF : HI = false → hdIn [41] (s.data.toList.drop p1) = true := by
            intro e
            rcases hc with hc | hc
            · rw [hc] at hHI; rw [← hHI] at e; cases e
            · exact hc
          obtain ⟨c1, c2⟩ := cl_some s.data.toList a V1 V1 false p1 hap hc ⟨H1, V1, LI, H1, V1, HI⟩ (by rw [hH1, hLI, hHI])
          rw [← hone, hH1] at c1 c2
          have hrv : risesL ⟨H1, V1, LI, H1, V1, HI⟩ = (!H1 || (LI && HI)) := by
            show (!H1 || !H1 || aheadL V1 V1 (LI && HI)) = _
            unfold aheadL
            rw [cmpT_cmp3.self V1]
            cases H1 <;> simp
          rw [hrv] at c1 c2
          have bad : ((!false && !H1) || !(!H1 || (LI && HI))) = true → Calls Tryz.prog 53 #[.pointer (some ⟨B, 0, none⟩)] w (OnePost w B s 21 (a : Int) noM 0) → Calls Tryz.prog 53 #[.pointer (some ⟨B, 0, none⟩)] w (OnePost w B s (oneD (s.data.toList.drop a)).err (onP a (s.data.toList.drop a)) (oneD (s.data.toList.drop a)).m (a + (oneD (s.data.toList.drop a)).k)) := by
            intro hr hcall
            obtain ⟨d1, d2⟩ := c1 hr
            exact hcall.mono fun r W hp => post_to d1.symm (onP_bad d1 (by decide) d2).symm (fun e => absurd e (by decide)) hp
          cases H1 with
          | false =>
            cases LI <;> cases HI
            · exact bad rfl (one_L6fff B s a p1 V1 w h hs hlt hLI (hLF rfl) b1 hV1 hH1 hp1 hl1 x3 hl4 hHI (hHF rfl))
            · exact bad rfl (one_L6ftf B s a p1 V1 w h hs hlt hLI (hLF rfl) b1 hV1 hH1 hp1 hl1 x3 hl4 hHI)
            · exact bad rfl (one_L6tff B s a p1 V1 w h hs hlt hLI b1 hV1 hH1 hp1 hl1 x3 hl4 hHI (hHF rfl))
            · exact bad rfl (one_L6ttf B s a p1 V1 w h hs hlt hLI b1 hV1 hH1 hp1 hl1 x3 hl4 hHI)
          | true =>
            cases LI <;> cases HI
            · exact bad rfl (one_L6fft B s a p1 V1 w h hs hlt hLI (hLF rfl) b1 hV1 hH1 hp1 hl1 x3 hl4 hHI (hHF rfl))
            · exact bad rfl (one_L6ftt B s a p1 V1 w h hs hlt hLI (hLF rfl) b1 hV1 hH1 hp1 hl1 x3 hl4 hHI)
            · exact bad rfl (one_L6tft B s a p1 V1 w h hs hlt hLI b1 hV1 hH1 hp1 hl1 x3 hl4 hHI (hHF rfl))
            · obtain ⟨d1, d2, d3⟩ := c2 rfl
              exact (one_L6ttt B s a p1 V1 w h hs hlt hLI b1 hV1 hH1 hp1 hl1 x3 hl4 hHI).mono fun r W hp => post_to d1.symm (onP_ok d1).symm (fun _ => ⟨d3.symm, d2.symm⟩) hp

end Go.Proofs.YtpedljmpobhimaaGreatDoor

/-
  Walks: the document's reader of ranges.
-/
namespace Go.Proofs.YtpedljmpobhimaaGreatDoor
open Go.RowKit Go.Shelf
set_option linter.unusedVariables false

/-- What the document's reader of ranges leaves. -/
def rP (F : Fo) : Int := if F.err = 0 then 0 else (F.at' : Int)
def RnPost (F : Fo) (w : World) (B : Nat) (s : ByteArray) : Ending → World → Prop := fun r W' =>
  ∃ v ms q, r = .returned v ∧ MrsN w.heap.size W' v ms ∧ Turn B w W' ∧ q ≤ s.size ∧ DrAt W' B s q F.err (rP F) ∧ (F.err = 0 → ms = F.ms)
/-- The reader of ranges at work: the reader's block, and the ranges so far. -/
structure Rn (w : World) (B : Nat) (s : ByteArray) (a : Nat) (e p : Int) (ao : Option Addr) (n cv : Nat) (ms : List Mr) (W : World) : Prop where
  turn : Turn B w W
  lt : B < w.heap.size
  rd : DrAt W B s a e p
  row : W.ownsRow w.heap.size 54 6 (.slice ao n cv) n (flatM ms)
  len : ms.length = n
theorem Rn.next {w W W' : World} {B : Nat} {s : ByteArray} {a a' : Nat} {e p e' p' : Int} {ao : Option Addr} {n cv : Nat} {ms : List Mr} (h : Rn w B s a e p ao n cv ms W) (t : Turn B W W') (d : DrAt W' B s a' e' p') : Rn w B s a' e' p' ao n cv ms W' :=
  ⟨h.turn.trans t, h.lt, d, own_turn h.row t h.lt, h.len⟩
theorem Rn.below {w W W' : World} {B : Nat} {s : ByteArray} {a : Nat} {e p : Int} {ao : Option Addr} {n cv : Nat} {ms : List Mr} (h : Rn w B s a e p ao n cv ms W) (hb : Below W.heap.size W W') : Rn w B s a e p ao n cv ms W' := h.next (Turn.ofBelow hb) (h.rd.below hb)
theorem Rn.place {w W : World} {B : Nat} {s : ByteArray} {a : Nat} {e p : Int} {ao : Option Addr} {n cv : Nat} {ms : List Mr} (h : Rn w B s a e p ao n cv ms W) (x : Nat) : Rn w B s x e p ao n cv ms (W.setCell ⟨B, 1, none⟩ (.int .i64 (x : Int))) := h.next (Turn.set _ _ _ _) (h.rd.place x)
theorem Rn.blanks {w W : World} {B : Nat} {s : ByteArray} {a : Nat} {e p : Int} {ao : Option Addr} {n cv : Nat} {ms : List Mr} (h : Rn w B s a e p ao n cv ms W) (hs : s.size ≤ 256) (ha : a ≤ s.size) {b : Nat} (hb : a + blN (s.data.toList.drop a) = b) :
    Calls Tryz.prog 25 #[.pointer (some ⟨B, 0, none⟩)] W fun r W' => r = .returned (.tuple #[]) ∧ Rn w B s b e p ao n cv ms W' := by
  subst hb
  refine (Rblanks_any B s a e p W h.rd hs ha).mono ?_
  rintro r W' ⟨rfl, t, d⟩
  exact ⟨rfl, h.next t d⟩
theorem Rn.is {w W : World} {B : Nat} {s : ByteArray} {a : Nat} {e p : Int} {ao : Option Addr} {n cv : Nat} {ms : List Mr} (h : Rn w B s a e p ao n cv ms W) (hs : s.size ≤ 256) (ha : a ≤ s.size) (c : UInt8) {X : Bool} (hX : hdIn [c] (s.data.toList.drop a) = X) :
    Calls Tryz.prog 26 #[.pointer (some ⟨B, 0, none⟩), .int .u8 (c.toNat : Int)] W fun r W' => r = .returned (.bool X) ∧ Rn w B s a e p ao n cv ms W' := by
  subst hX
  refine (Ris_any B s a e p c W h.rd hs ha).mono ?_
  rintro r W' ⟨rfl, k, rfl⟩
  exact ⟨rfl, h.next (Turn.drewN _ _ _) (h.rd.drewN k)⟩
theorem Rn.here {w W : World} {B : Nat} {s : ByteArray} {a : Nat} {e p : Int} {ao : Option Addr} {n cv : Nat} {ms : List Mr} (h : Rn w B s a e p ao n cv ms W) (ha : a ≤ s.size) :
    Calls Tryz.prog 28 #[.pointer (some ⟨B, 0, none⟩)] W fun r W' => r = .returned (.tuple #[]) ∧ Rn w B s a (fe e (misR (s.data.toList.drop a))) (fp e (a : Int) p) ao n cv ms W' := by
  refine (Rhere_any B s a e p W h.rd ha).mono ?_
  rintro r W' ⟨rfl, t, d⟩
  exact ⟨rfl, h.next t d⟩
theorem Rn.fail {w W : World} {B : Nat} {s : ByteArray} {a : Nat} {e p : Int} {ao : Option Addr} {n cv : Nat} {ms : List Mr} (h : Rn w B s a e p ao n cv ms W) (x y : Int) :
    Calls Tryz.prog 52 #[.pointer (some ⟨B, 0, none⟩), .int .i64 x, .int .i64 y] W fun r W' => r = .returned (.tuple #[]) ∧ Rn w B s a (fe e x) (fp e y p) ao n cv ms W' := by
  refine (Rfail_any B s a e p x y W h.rd).mono ?_
  rintro r W' ⟨rfl, t, d⟩
  exact ⟨rfl, h.next t d⟩
theorem Rn.one {w W : World} {B : Nat} {s : ByteArray} {a : Nat} {ao : Option Addr} {n cv : Nat} {ms : List Mr} (h : Rn w B s a 0 0 ao n cv ms W) (hs : s.size ≤ 256) (ha : a ≤ s.size) {E P : Int} {M : Mr} {Q : Nat} (hE : (oneD (s.data.toList.drop a)).err = E) (hP : onP a (s.data.toList.drop a) = P) (hM : (oneD (s.data.toList.drop a)).m = M) (hQ : a + (oneD (s.data.toList.drop a)).k = Q) :
    Calls Tryz.prog 53 #[.pointer (some ⟨B, 0, none⟩)] W fun r W' => ∃ m' q', r = .returned (mV m') ∧ Rn w B s q' E P ao n cv ms W' ∧ q' ≤ s.size ∧ (E = 0 → m' = M ∧ q' = Q) := by
  subst hE hP hM hQ
  refine (RoneR_any B s a W h.rd hs ha).mono ?_
  rintro r W' ⟨m', q', rfl, t, hq, d, he⟩
  exact ⟨m', q', rfl, h.next t d, hq, he⟩
theorem Rn.oneBad {w W : World} {B : Nat} {s : ByteArray} {a : Nat} {e p : Int} {ao : Option Addr} {n cv : Nat} {ms : List Mr} (h : Rn w B s a e p ao n cv ms W) (hs : s.size ≤ 256) (ha : a < s.size) (he : e ≠ 0) (hb : hdIn [91] (s.data.toList.drop a) = true ∨ hdIn [40] (s.data.toList.drop a) = true) :
    Calls Tryz.prog 53 #[.pointer (some ⟨B, 0, none⟩)] W fun r W' => ∃ m' q', r = .returned (mV m') ∧ Rn w B s q' e p ao n cv ms W' ∧ q' ≤ s.size := by
  refine (RoneR_bad B s a e p W h.rd hs ha he hb).mono ?_
  rintro r W' ⟨m', q', rfl, t, hq, d, _⟩
  exact ⟨m', q', rfl, h.next t d, hq⟩
theorem Rn.seen {w W : World} {B : Nat} {s : ByteArray} {a : Nat} {e p : Int} {ao : Option Addr} {n cv : Nat} {ms : List Mr} (h : Rn w B s a e p ao n cv ms W) : W.cell? ⟨B, 0, none⟩ = some (.string s) ∧ W.cell? ⟨B, 1, none⟩ = some (.int .i64 (a : Int)) ∧ W.cell? ⟨B, 2, none⟩ = some (.int .i64 e) ∧ W.cell? ⟨B, 3, none⟩ = some (.int .i64 p) ∧ W.frozen? ⟨B, 1, none⟩ = false := by
  obtain ⟨c0, c1, c2, c3, f1, f2, f3⟩ := h.rd.seen
  exact ⟨c0, c1, c2, c3, f1⟩
/-- One range laid behind. -/
theorem Rn.grow {w W : World} {B : Nat} {s : ByteArray} {a : Nat} {e p : Int} {ao : Option Addr} {n cv : Nat} {ms : List Mr} {m : Mr} {g c' : Nat} {o : Obj} {W' : World} (h : Rn w B s a e p ao n cv ms W) (hr : W'.ownsRow w.heap.size 54 6 (.slice (some ⟨g, 0, none⟩) (n + 1) c') (n + 1) (flatM ms ++ [.bool m.hasLo, .string (ofL m.lo), .bool m.loIn, .bool m.hasHi, .string (ofL m.hi), .bool m.hiIn])) (hg : (W.alloc o).grownBy W' (Value.slice ao n cv).ownBlock) : Rn w B s a e p (some ⟨g, 0, none⟩) (n + 1) c' (ms ++ [m]) W' := by
  have hS : w.heap.size ≤ W.heap.size := h.turn.size
  obtain ⟨k1, _⟩ := app_blocksM h.row hS hg
  refine ⟨turn_grown (h.turn.alloc o) hg (fun k hk => (h.row.lt k hk).1), h.lt, (k1 B h.lt).trans h.rd, ?_, by simp [h.len]⟩
  rw [flatM_snoc]
  exact hr
theorem rn_end {F : Fo} {w W : World} {B : Nat} {s : ByteArray} {a : Nat} {e p : Int} {ao : Option Addr} {n cv : Nat} {ms : List Mr} (h : Rn w B s a e p ao n cv ms W) (ha : a ≤ s.size) (he : F.err = e) (hp : rP F = p) (hm : e = 0 → ms = F.ms) : RnPost F w B s (.returned (.slice ao n cv)) W := by
  subst he hp
  have hl := h.len
  subst hl
  exact ⟨_, ms, a, rfl, own_mrs h.row, h.turn, ha, h.rd, hm⟩
theorem rP_bad {F : Fo} {e : Int} {q : Nat} (he : F.err = e) (hne : e ≠ 0) (hq : F.at' = q) : rP F = (q : Int) := by
  unfold rP
  rw [if_neg (by rw [he]; exact hne), hq]
theorem rP_ok {F : Fo} (he : F.err = 0) : rP F = 0 := by
  unfold rP
  rw [if_pos he]

theorem Alike.trans {x y z : Fo} (h : Alike x y) (k : Alike y z) : Alike x z := ⟨h.1.trans k.1, fun e => (h.2.1 e).trans (k.2.1 (by rw [← h.1]; exact e)), fun e => (h.2.2 e).trans (k.2.2 (by rw [← h.1]; exact e))⟩
theorem Alike.bad {x y : Fo} {e : Int} {q : Nat} (h : Alike x y) (hy : y.err = e ∧ y.at' = q) (hne : e ≠ 0) : x.err = e ∧ rP x = (q : Int) := by
  have he := h.1.trans hy.1
  exact ⟨he, rP_bad he hne ((h.2.1 (by rw [he]; exact hne)).trans hy.2)⟩
theorem Alike.ok {x y : Fo} {ms : List Mr} (h : Alike x y) (hy : y.err = 0 ∧ y.ms = ms) : x.err = 0 ∧ rP x = 0 ∧ ms = x.ms := by
  have he := h.1.trans hy.1
  exact ⟨he, rP_ok he, ((h.2.2 he).trans hy.2).symm⟩
theorem wrap_nat (i : Nat) (h : i ≤ 1000) : IntKind.i64.wrap (i : Int) = (i : Int) := by
  rw [IntKind.wrap_i64]
  omega
theorem cell_on {W W' : World} {a : Addr} {v : Value} (h : W.cell? a = some v) (hb : Below W.heap.size W W') : W'.cell? a = some v := by
  have hl := hb.block a.block (cell_lt h)
  simp only [World.cell?] at h ⊢
  rw [hl]
  exact h
theorem oneD_lt {r : List UInt8} (h : (oneD r).err = 0) : 0 < (oneD r).k := by
  obtain ⟨h1, h2⟩ := oneD_ok h
  rw [h2] at h ⊢
  have := (rr_facts r h).2.1
  have h3 : 0 < (wrR (rrR r).m).length := by unfold wrR; split <;> simp
  omega
/-- One round of the document's loop, by places. -/
theorem dL_at (l : List UInt8) (ms : List Mr) (b c K : Nat) (M : Mr) (h : ms.length < 32) (h2 : (oneD (l.drop b)).err = 0) (hM : (oneD (l.drop b)).m = M) (h3 : mayB ms M = true) (hK : b + (oneD (l.drop b)).k = K) (hc : K + blN (l.drop K) = c) :
    (l.drop c = [] → (dL ms b (l.drop b)).err = 0 ∧ (dL ms b (l.drop b)).ms = ms ++ [M]) ∧
    (l.drop c ≠ [] → hdIn [44] (l.drop c) = false → (dL ms b (l.drop b)).err = 10 ∧ (dL ms b (l.drop b)).at' = c) ∧
    (l.drop c ≠ [] → hdIn [44] (l.drop c) = true → Alike (dL ms b (l.drop b)) (dL (ms ++ [M]) (c + 1 + blN (l.drop (c + 1))) (l.drop (c + 1 + blN (l.drop (c + 1)))))) := by
  subst hM
  have H := dL_step (b := b) h h2 h3
  have e1 : dP (l.drop b) + b = c := by unfold dP; rw [List.drop_drop, hK]; omega
  have e2 : dR (l.drop b) = l.drop c := by
    rw [← e1]
    unfold dR
    rw [List.drop_drop, Nat.add_comm b]
    rfl
  have e3 : (l.drop b).drop (dP (l.drop b) + 1) = l.drop (c + 1) := by rw [List.drop_drop]; congr 1; omega
  have e4 : b + dP (l.drop b) + 1 + blN (l.drop (c + 1)) = c + 1 + blN (l.drop (c + 1)) := by omega
  have e5 : (l.drop b).drop (dP (l.drop b) + 1 + blN (l.drop (c + 1))) = l.drop (c + 1 + blN (l.drop (c + 1))) := by rw [List.drop_drop]; congr 1; omega
  have e6 : b + dP (l.drop b) = c := by omega
  rw [e2, e3, e4, e5, e6] at H
  exact H
/-- The last range of the row. -/
theorem Rn.last {w W : World} {B : Nat} {s : ByteArray} {a : Nat} {e p : Int} {ao : Option Addr} {n i cv : Nat} {ms : List Mr} (h : Rn w B s a e p ao n cv ms W) (hn : n = i + 1) : ∃ g o m, ao = some ⟨g, o, none⟩ ∧ (∀ x, mayB ms x = partedL m x) ∧
    W.cell? ⟨g, o + i * 6, none⟩ = some (.bool m.hasLo) ∧ W.cell? ⟨g, o + i * 6 + 1, none⟩ = some (.string (ofL m.lo)) ∧ W.cell? ⟨g, o + i * 6 + 2, none⟩ = some (.bool m.loIn) ∧
    W.cell? ⟨g, o + i * 6 + 3, none⟩ = some (.bool m.hasHi) ∧ W.cell? ⟨g, o + i * 6 + 4, none⟩ = some (.string (ofL m.hi)) ∧ W.cell? ⟨g, o + i * 6 + 5, none⟩ = some (.bool m.hiIn) := by
  subst hn
  have hl := h.len
  have hr := h.row
  have hm : MrsN w.heap.size W (.slice ao (i + 1) cv) ms := by
    rw [← hl] at hr ⊢
    exact own_mrs hr
  obtain ⟨g, o, e1, _, d⟩ := mrs_at hm.mrs (by omega)
  have i1 : i < ms.length := by omega
  obtain ⟨q0, q1, q2, q3, q4, q5⟩ := d.six i _ (List.getElem?_eq_getElem i1)
  exact ⟨g, o, ms[i], e1, fun x => may_last hl (List.getElem?_eq_getElem i1), q0, q1, q2, q3, q4, q5⟩

set_option maxRecDepth 100000 in
set_option maxHeartbeats 8000000 in
theorem Rranges_any (B : Nat) (s : ByteArray) (a : Nat) (w : World) (h : DrAt w B s a 0 0) (hs : s.size ≤ 256) (ha : a ≤ s.size) (F : Fo) (hF : F = dL [] (a + blN (s.data.toList.drop a)) (s.data.toList.drop (a + blN (s.data.toList.drop a)))) :
    Calls Tryz.prog 29 #[.pointer (some ⟨B, 0, none⟩)] w (RnPost F w B s) := by
  have H := hide h
  have hB := h.lt
  have HF : Hid (Alike F (dL [] (a + blN (s.data.toList.drop a)) (s.data.toList.drop (a + blN (s.data.toList.drop a))))) := by subst hF; exact Alike.refl _
  clear h hF
  obtain ⟨i0, hi, hz0, hz1, hz2⟩ := info_parts Tryz.info54
  go_enter Tryz.func29, Tryz.ntmps29
  go_wp2_with fail
  go_loopw [3] (fun y wr => ∃ (ms : List Mr) (a : Nat) (ao : Option Addr) (n cv : Nat), y = .slice ao n cv ∧ n ≤ 32 ∧ a ≤ s.size ∧ Hid (Rn w B s a 0 0 ao n cv ms wr) ∧ Hid (Alike F (dL ms (a + blN (s.data.toList.drop a)) (s.data.toList.drop (a + blN (s.data.toList.drop a)))))) (fun _ wr => s.size - dplace wr B)
  case atStart => exact ⟨[], a, none, 0, 0, rfl, by omega, ha, ⟨Turn.refl _ _, hB, H.out, World.ownsRow_nil _ _ _ _, rfl⟩, HF⟩
  case round =>
    clear HF H ha
    clear a
    obtain ⟨ms, a, ao, n, cv, rfl, hn, ha, Q0, HF⟩ := hrel
    obtain ⟨b, hb⟩ : ∃ b, a + blN (s.data.toList.drop a) = b := ⟨_, rfl⟩
    have hbs : b ≤ s.size := by have := blN_le (s.data.toList.drop a); rw [List.length_drop, len_data] at this; omega
    rw [hb] at HF
    have HB := hide hb
    clear hb
    obtain ⟨c0, c1, c2, c3, f1⟩ := Q0.out.seen
    obtain ⟨E, hE⟩ : ∃ E, (oneD (s.data.toList.drop b)).err = E := ⟨_, rfl⟩
    obtain ⟨P, hP⟩ : ∃ P, onP b (s.data.toList.drop b) = P := ⟨_, rfl⟩
    obtain ⟨M, hM⟩ : ∃ M, (oneD (s.data.toList.drop b)).m = M := ⟨_, rfl⟩
    obtain ⟨K, hK⟩ : ∃ K, b + (oneD (s.data.toList.drop b)).k = K := ⟨_, rfl⟩
    have HE := hide hE
    have HP := hide hP
    have HM := hide hM
    have HKK := hide hK
    clear hE hP hM hK
    by_cases hn2 : n = 32
    · have hnb : ((n : Int) == 32) = true := by simp; omega
      have HN := hide hn2
      obtain ⟨X1, hX1⟩ : ∃ X, hdIn [91] (s.data.toList.drop b) = X := ⟨_, rfl⟩
      obtain ⟨X2, hX2⟩ : ∃ X, hdIn [40] (s.data.toList.drop b) = X := ⟨_, rfl⟩
      have HX1 := hide hX1
      have HX2 := hide hX2
      clear hn2 hX1 hX2
      go_wp2_with fail
      refine (Q0.out.blanks hs ha HB.out).mono ?_
      rintro r W1 ⟨rfl, q⟩
      have Q1 := hide q
      clear q c0 c1 c2 c3 f1
      dsimp only
      obtain ⟨c0, c1, c2, c3, f1⟩ := Q1.out.seen
      go_wp2_with fail
      refine (Q1.out.is hs hbs 91 HX1.out).mono ?_
      rintro r W2 ⟨rfl, q⟩
      have Q2 := hide q
      clear q Q1 c0 c1 c2 c3 f1
      dsimp only
      obtain ⟨c0, c1, c2, c3, f1⟩ := Q2.out.seen
      cases X1 with
      | true =>
        go_wp2_with fail
        have hbr : hdIn [91] (s.data.toList.drop b) = true ∨ hdIn [40] (s.data.toList.drop b) = true := .inl HX1.out
        have hblt : b < s.size := by
          rcases hbr with hb' | hb' <;> (have := hdIn_lt hb'; rwa [len_data] at this)
        refine (Q2.out.fail 12 (b : Int)).mono ?_
        rintro r W3 ⟨rfl, q⟩
        have Q3 := hide q
        clear q Q2 c0 c1 c2 c3 f1
        dsimp only
        obtain ⟨c0, c1, c2, c3, f1⟩ := Q3.out.seen
        rw [show fe 0 12 = 12 from rfl] at c2
        rw [show fp 0 (b : Int) 0 = (b : Int) from rfl] at c3
        obtain ⟨hFE, hFP⟩ := HF.out.bad (e := 12) (q := b) (by rw [dL_long (Q3.out.len.trans HN.out) (by rw [hd_two]; rcases hbr with hb' | hb' <;> rw [hb'] <;> simp)]; exact ⟨rfl, rfl⟩) (by decide)
        have HFE := hide hFE
        have HFP := hide hFP
        have HBR := hide hbr
        clear hFE hFP hbr
        go_wp2_with fail
        refine (Q3.out.oneBad hs hblt (by decide) HBR.out).mono ?_
        rintro r W4 ⟨m', q', rfl, q, hq'⟩
        replace q : Rn w B s q' 12 (b : Int) ao n cv ms W4 := q
        have Q4 := hide q
        have HE0 : Hid ((12 : Int) ≠ 0) := (by decide : (12 : Int) ≠ 0)
        clear q Q3 c0 c1 c2 c3 f1
        dsimp only
        obtain ⟨c0, c1, c2, c3, f1⟩ := Q4.out.seen
        unfold mV
        obtain ⟨q9, hq9⟩ : ∃ q9, q' + blN (s.data.toList.drop q') = q9 := ⟨_, rfl⟩
        have hl9 : q9 ≤ s.size := by have := blN_le (s.data.toList.drop q'); rw [List.length_drop, len_data] at this; omega
        have HQ9 := hide hq9
        clear hq9
        have HX := hide (World.alloc_heap_new W4 (.cells #[.bool m'.hasLo, .string (ofL m'.lo), .bool m'.loIn, .bool m'.hasHi, .string (ofL m'.hi), .bool m'.hiIn] 54))
        have hKX : B < W4.heap.size := by have h1 := Q4.out.lt; have h2 := Q4.out.turn.size; omega
        have Q5 := hide (Q4.out.below ((Below.refl _ W4).alloc (Nat.le_refl _) (.cells #[.bool m'.hasLo, .string (ofL m'.lo), .bool m'.loIn, .bool m'.hasHi, .string (ofL m'.hi), .bool m'.hiIn] 54)))
        clear Q4 c0 c1 c2 c3 f1
        obtain ⟨c0, c1, c2, c3, f1⟩ := Q5.out.seen
        go_wp2_with fail
        generalize W4.alloc (.cells #[.bool m'.hasLo, .string (ofL m'.lo), .bool m'.loIn, .bool m'.hasHi, .string (ofL m'.hi), .bool m'.hiIn] 54) = WX at *
        generalize W4.heap.size = KX at *
        have x0 : WX.cell? ⟨KX, 0, none⟩ = some (.bool m'.hasLo) := cell_at 0 HX.out rfl
        have x1 : WX.cell? ⟨KX, 1, none⟩ = some (.string (ofL m'.lo)) := cell_at 1 HX.out rfl
        have x2 : WX.cell? ⟨KX, 2, none⟩ = some (.bool m'.loIn) := cell_at 2 HX.out rfl
        have x3 : WX.cell? ⟨KX, 3, none⟩ = some (.bool m'.hasHi) := cell_at 3 HX.out rfl
        have x4 : WX.cell? ⟨KX, 4, none⟩ = some (.string (ofL m'.hi)) := cell_at 4 HX.out rfl
        have x5 : WX.cell? ⟨KX, 5, none⟩ = some (.bool m'.hiIn) := cell_at 5 HX.out rfl
        go_quiet (fail)
        have Q6 := hide (Q5.out.below (below_drewN _ _ nq))
        have HX2 : Hid ((WX.drewN nq).heap[KX]? = some (.cells #[.bool m'.hasLo, .string (ofL m'.lo), .bool m'.loIn, .bool m'.hasHi, .string (ofL m'.hi), .bool m'.hiIn] 54 (0, 0))) := by show _ = _; rw [heap_drewN]; exact HX.out
        clear Q5 c0 c1 c2 c3 f1 x0 x1 x2 x3 x4 x5 HX
        generalize WX.drewN nq = WY at *
        have x0 : WY.cell? ⟨KX, 0, none⟩ = some (.bool m'.hasLo) := cell_at 0 HX2.out rfl
        have x1 : WY.cell? ⟨KX, 1, none⟩ = some (.string (ofL m'.lo)) := cell_at 1 HX2.out rfl
        have x2 : WY.cell? ⟨KX, 2, none⟩ = some (.bool m'.loIn) := cell_at 2 HX2.out rfl
        have x3 : WY.cell? ⟨KX, 3, none⟩ = some (.bool m'.hasHi) := cell_at 3 HX2.out rfl
        have x4 : WY.cell? ⟨KX, 4, none⟩ = some (.string (ofL m'.hi)) := cell_at 4 HX2.out rfl
        have x5 : WY.cell? ⟨KX, 5, none⟩ = some (.bool m'.hiIn) := cell_at 5 HX2.out rfl
        obtain ⟨c0, c1, c2, c3, f1⟩ := Q6.out.seen
        have hbase : w.heap.size ≤ WY.heap.size := Q6.out.turn.size
        go_wp2_with (at_builtin; refine wpList_append_own _ rfl _ _ 22 rfl w.heap.size 54 i0 (.agg #[.bool false, .string .empty, .bool false, .bool false, .string .empty, .bool false]) 6 56 Tryz.underlying22 hi hz0 hz1 hz2 rfl (by decide) _ _ _ rfl (Q6.out.row.alloc _) ⟨WY.heap.size, 0, none⟩ 1 1 [.bool m'.hasLo, .string (ofL m'.lo), .bool m'.loIn, .bool m'.hasHi, .string (ofL m'.hi), .bool m'.hiIn] rfl rfl (cell_six_new _ _ _ _ _ _ _ _) (rowM_one m') (by unfold maxLen; omega) (by omega) (by simp; omega) ?_; intro v' WA hown' hgrow _; obtain ⟨g', cap', rfl⟩ := ownsRow_succ hown')
        have QA := hide (Q6.out.grow hown' hgrow)
        clear hown' hgrow hbase Q6 c0 c1 c2 c3 f1
        obtain ⟨c0, c1, c2, c3, f1⟩ := QA.out.seen
        try dsimp only
        clear x0 x1 x2 x3 x4 x5 HX2
        go_wp2_with fail
        refine (QA.out.blanks hs hq' HQ9.out).mono ?_
        rintro r WB ⟨rfl, q⟩
        have QB := hide q
        clear q QA c0 c1 c2 c3 f1
        dsimp only
        obtain ⟨c0, c1, c2, c3, f1⟩ := QB.out.seen
        go_wp2_with fail
        go_quiet (fail)
        have QC := hide (QB.out.below (below_drewN _ _ nq))
        clear QB c0 c1 c2 c3 f1
        generalize WB.drewN nq = WC at *
        go_wp2_with fail
        go_ret
        exact rn_end QC.out hl9 HFE.out HFP.out (fun h => absurd h HE0.out)
      | false =>
        go_wp2_with fail
        refine (Q2.out.is hs hbs 40 HX2.out).mono ?_
        rintro r W3 ⟨rfl, q⟩
        have Q3 := hide q
        clear q Q2 c0 c1 c2 c3 f1
        dsimp only
        obtain ⟨c0, c1, c2, c3, f1⟩ := Q3.out.seen
        cases X2 with
        | true =>
          go_wp2_with fail
          have hbr : hdIn [91] (s.data.toList.drop b) = true ∨ hdIn [40] (s.data.toList.drop b) = true := .inr HX2.out
          have hblt : b < s.size := by
            rcases hbr with hb' | hb' <;> (have := hdIn_lt hb'; rwa [len_data] at this)
          refine (Q3.out.fail 12 (b : Int)).mono ?_
          rintro r W4 ⟨rfl, q⟩
          have Q4 := hide q
          clear q Q3 c0 c1 c2 c3 f1
          dsimp only
          obtain ⟨c0, c1, c2, c3, f1⟩ := Q4.out.seen
          rw [show fe 0 12 = 12 from rfl] at c2
          rw [show fp 0 (b : Int) 0 = (b : Int) from rfl] at c3
          obtain ⟨hFE, hFP⟩ := HF.out.bad (e := 12) (q := b) (by rw [dL_long (Q4.out.len.trans HN.out) (by rw [hd_two]; rcases hbr with hb' | hb' <;> rw [hb'] <;> simp)]; exact ⟨rfl, rfl⟩) (by decide)
          have HFE := hide hFE
          have HFP := hide hFP
          have HBR := hide hbr
          clear hFE hFP hbr
          go_wp2_with fail
          refine (Q4.out.oneBad hs hblt (by decide) HBR.out).mono ?_
          rintro r W5 ⟨m', q', rfl, q, hq'⟩
          replace q : Rn w B s q' 12 (b : Int) ao n cv ms W5 := q
          have Q5 := hide q
          have HE0 : Hid ((12 : Int) ≠ 0) := (by decide : (12 : Int) ≠ 0)
          clear q Q4 c0 c1 c2 c3 f1
          dsimp only
          obtain ⟨c0, c1, c2, c3, f1⟩ := Q5.out.seen
          unfold mV
          obtain ⟨q9, hq9⟩ : ∃ q9, q' + blN (s.data.toList.drop q') = q9 := ⟨_, rfl⟩
          have hl9 : q9 ≤ s.size := by have := blN_le (s.data.toList.drop q'); rw [List.length_drop, len_data] at this; omega
          have HQ9 := hide hq9
          clear hq9
          have HX := hide (World.alloc_heap_new W5 (.cells #[.bool m'.hasLo, .string (ofL m'.lo), .bool m'.loIn, .bool m'.hasHi, .string (ofL m'.hi), .bool m'.hiIn] 54))
          have hKX : B < W5.heap.size := by have h1 := Q5.out.lt; have h2 := Q5.out.turn.size; omega
          have Q6 := hide (Q5.out.below ((Below.refl _ W5).alloc (Nat.le_refl _) (.cells #[.bool m'.hasLo, .string (ofL m'.lo), .bool m'.loIn, .bool m'.hasHi, .string (ofL m'.hi), .bool m'.hiIn] 54)))
          clear Q5 c0 c1 c2 c3 f1
          obtain ⟨c0, c1, c2, c3, f1⟩ := Q6.out.seen
          go_wp2_with fail
          generalize W5.alloc (.cells #[.bool m'.hasLo, .string (ofL m'.lo), .bool m'.loIn, .bool m'.hasHi, .string (ofL m'.hi), .bool m'.hiIn] 54) = WX at *
          generalize W5.heap.size = KX at *
          have x0 : WX.cell? ⟨KX, 0, none⟩ = some (.bool m'.hasLo) := cell_at 0 HX.out rfl
          have x1 : WX.cell? ⟨KX, 1, none⟩ = some (.string (ofL m'.lo)) := cell_at 1 HX.out rfl
          have x2 : WX.cell? ⟨KX, 2, none⟩ = some (.bool m'.loIn) := cell_at 2 HX.out rfl
          have x3 : WX.cell? ⟨KX, 3, none⟩ = some (.bool m'.hasHi) := cell_at 3 HX.out rfl
          have x4 : WX.cell? ⟨KX, 4, none⟩ = some (.string (ofL m'.hi)) := cell_at 4 HX.out rfl
          have x5 : WX.cell? ⟨KX, 5, none⟩ = some (.bool m'.hiIn) := cell_at 5 HX.out rfl
          go_quiet (fail)
          have Q7 := hide (Q6.out.below (below_drewN _ _ nq))
          have HX2 : Hid ((WX.drewN nq).heap[KX]? = some (.cells #[.bool m'.hasLo, .string (ofL m'.lo), .bool m'.loIn, .bool m'.hasHi, .string (ofL m'.hi), .bool m'.hiIn] 54 (0, 0))) := by show _ = _; rw [heap_drewN]; exact HX.out
          clear Q6 c0 c1 c2 c3 f1 x0 x1 x2 x3 x4 x5 HX
          generalize WX.drewN nq = WY at *
          have x0 : WY.cell? ⟨KX, 0, none⟩ = some (.bool m'.hasLo) := cell_at 0 HX2.out rfl
          have x1 : WY.cell? ⟨KX, 1, none⟩ = some (.string (ofL m'.lo)) := cell_at 1 HX2.out rfl
          have x2 : WY.cell? ⟨KX, 2, none⟩ = some (.bool m'.loIn) := cell_at 2 HX2.out rfl
          have x3 : WY.cell? ⟨KX, 3, none⟩ = some (.bool m'.hasHi) := cell_at 3 HX2.out rfl
          have x4 : WY.cell? ⟨KX, 4, none⟩ = some (.string (ofL m'.hi)) := cell_at 4 HX2.out rfl
          have x5 : WY.cell? ⟨KX, 5, none⟩ = some (.bool m'.hiIn) := cell_at 5 HX2.out rfl
          obtain ⟨c0, c1, c2, c3, f1⟩ := Q7.out.seen
          have hbase : w.heap.size ≤ WY.heap.size := Q7.out.turn.size
          go_wp2_with (at_builtin; refine wpList_append_own _ rfl _ _ 22 rfl w.heap.size 54 i0 (.agg #[.bool false, .string .empty, .bool false, .bool false, .string .empty, .bool false]) 6 56 Tryz.underlying22 hi hz0 hz1 hz2 rfl (by decide) _ _ _ rfl (Q7.out.row.alloc _) ⟨WY.heap.size, 0, none⟩ 1 1 [.bool m'.hasLo, .string (ofL m'.lo), .bool m'.loIn, .bool m'.hasHi, .string (ofL m'.hi), .bool m'.hiIn] rfl rfl (cell_six_new _ _ _ _ _ _ _ _) (rowM_one m') (by unfold maxLen; omega) (by omega) (by simp; omega) ?_; intro v' WA hown' hgrow _; obtain ⟨g', cap', rfl⟩ := ownsRow_succ hown')
          have QA := hide (Q7.out.grow hown' hgrow)
          clear hown' hgrow hbase Q7 c0 c1 c2 c3 f1
          obtain ⟨c0, c1, c2, c3, f1⟩ := QA.out.seen
          try dsimp only
          clear x0 x1 x2 x3 x4 x5 HX2
          go_wp2_with fail
          refine (QA.out.blanks hs hq' HQ9.out).mono ?_
          rintro r WB ⟨rfl, q⟩
          have QB := hide q
          clear q QA c0 c1 c2 c3 f1
          dsimp only
          obtain ⟨c0, c1, c2, c3, f1⟩ := QB.out.seen
          go_wp2_with fail
          go_quiet (fail)
          have QC := hide (QB.out.below (below_drewN _ _ nq))
          clear QB c0 c1 c2 c3 f1
          generalize WB.drewN nq = WC at *
          go_wp2_with fail
          go_ret
          exact rn_end QC.out hl9 HFE.out HFP.out (fun h => absurd h HE0.out)
        | false =>
          have hE1 := one_none HX1.out HX2.out
          have hE0 : E ≠ 0 := by rw [← HE.out, hE1]; exact misR_ne _
          go_wp2_with fail
          refine (Q3.out.one hs hbs HE.out HP.out HM.out HKK.out).mono ?_
          rintro r W4 ⟨m', q', rfl, q, hq', hm'⟩
          have Q4 := hide q
          have HM' := hide hm'
          clear q hm' Q3 c0 c1 c2 c3 f1
          dsimp only
          obtain ⟨c0, c1, c2, c3, f1⟩ := Q4.out.seen
          unfold mV
          have hEb : (E == 0) = false := by simpa using hE0
          have hEn : (E != 0) = true := by simpa using hE0
          have HE0 := hide hE0
          have hlen := Q4.out.len
          obtain ⟨hFE, hFP⟩ := HF.out.bad (dL_bad (.inr (by rw [hd_two, HX1.out, HX2.out]; rfl)) (by rw [HE.out]; exact hE0)) (by rw [HE.out]; exact hE0)
          rw [HE.out] at hFE
          rw [HKK.out, ← onP_bad HE.out hE0 HKK.out, HP.out] at hFP
          have HFE := hide hFE
          have HFP := hide hFP
          clear hE0 hFE hFP hlen
          obtain ⟨q9, hq9⟩ : ∃ q9, q' + blN (s.data.toList.drop q') = q9 := ⟨_, rfl⟩
          have hl9 : q9 ≤ s.size := by have := blN_le (s.data.toList.drop q'); rw [List.length_drop, len_data] at this; omega
          have HQ9 := hide hq9
          clear hq9
          have HX := hide (World.alloc_heap_new W4 (.cells #[.bool m'.hasLo, .string (ofL m'.lo), .bool m'.loIn, .bool m'.hasHi, .string (ofL m'.hi), .bool m'.hiIn] 54))
          have hKX : B < W4.heap.size := by have h1 := Q4.out.lt; have h2 := Q4.out.turn.size; omega
          have Q5 := hide (Q4.out.below ((Below.refl _ W4).alloc (Nat.le_refl _) (.cells #[.bool m'.hasLo, .string (ofL m'.lo), .bool m'.loIn, .bool m'.hasHi, .string (ofL m'.hi), .bool m'.hiIn] 54)))
          clear Q4 c0 c1 c2 c3 f1
          obtain ⟨c0, c1, c2, c3, f1⟩ := Q5.out.seen
          go_wp2_with fail
          generalize W4.alloc (.cells #[.bool m'.hasLo, .string (ofL m'.lo), .bool m'.loIn, .bool m'.hasHi, .string (ofL m'.hi), .bool m'.hiIn] 54) = WX at *
          generalize W4.heap.size = KX at *
          have x0 : WX.cell? ⟨KX, 0, none⟩ = some (.bool m'.hasLo) := cell_at 0 HX.out rfl
          have x1 : WX.cell? ⟨KX, 1, none⟩ = some (.string (ofL m'.lo)) := cell_at 1 HX.out rfl
          have x2 : WX.cell? ⟨KX, 2, none⟩ = some (.bool m'.loIn) := cell_at 2 HX.out rfl
          have x3 : WX.cell? ⟨KX, 3, none⟩ = some (.bool m'.hasHi) := cell_at 3 HX.out rfl
          have x4 : WX.cell? ⟨KX, 4, none⟩ = some (.string (ofL m'.hi)) := cell_at 4 HX.out rfl
          have x5 : WX.cell? ⟨KX, 5, none⟩ = some (.bool m'.hiIn) := cell_at 5 HX.out rfl
          go_quiet (fail)
          have Q6 := hide (Q5.out.below (below_drewN _ _ nq))
          have HX2 : Hid ((WX.drewN nq).heap[KX]? = some (.cells #[.bool m'.hasLo, .string (ofL m'.lo), .bool m'.loIn, .bool m'.hasHi, .string (ofL m'.hi), .bool m'.hiIn] 54 (0, 0))) := by show _ = _; rw [heap_drewN]; exact HX.out
          clear Q5 c0 c1 c2 c3 f1 x0 x1 x2 x3 x4 x5 HX
          generalize WX.drewN nq = WY at *
          have x0 : WY.cell? ⟨KX, 0, none⟩ = some (.bool m'.hasLo) := cell_at 0 HX2.out rfl
          have x1 : WY.cell? ⟨KX, 1, none⟩ = some (.string (ofL m'.lo)) := cell_at 1 HX2.out rfl
          have x2 : WY.cell? ⟨KX, 2, none⟩ = some (.bool m'.loIn) := cell_at 2 HX2.out rfl
          have x3 : WY.cell? ⟨KX, 3, none⟩ = some (.bool m'.hasHi) := cell_at 3 HX2.out rfl
          have x4 : WY.cell? ⟨KX, 4, none⟩ = some (.string (ofL m'.hi)) := cell_at 4 HX2.out rfl
          have x5 : WY.cell? ⟨KX, 5, none⟩ = some (.bool m'.hiIn) := cell_at 5 HX2.out rfl
          obtain ⟨c0, c1, c2, c3, f1⟩ := Q6.out.seen
          have hbase : w.heap.size ≤ WY.heap.size := Q6.out.turn.size
          go_wp2_with (at_builtin; refine wpList_append_own _ rfl _ _ 22 rfl w.heap.size 54 i0 (.agg #[.bool false, .string .empty, .bool false, .bool false, .string .empty, .bool false]) 6 56 Tryz.underlying22 hi hz0 hz1 hz2 rfl (by decide) _ _ _ rfl (Q6.out.row.alloc _) ⟨WY.heap.size, 0, none⟩ 1 1 [.bool m'.hasLo, .string (ofL m'.lo), .bool m'.loIn, .bool m'.hasHi, .string (ofL m'.hi), .bool m'.hiIn] rfl rfl (cell_six_new _ _ _ _ _ _ _ _) (rowM_one m') (by unfold maxLen; omega) (by omega) (by simp; omega) ?_; intro v' WA hown' hgrow _; obtain ⟨g', cap', rfl⟩ := ownsRow_succ hown')
          have QA := hide (Q6.out.grow hown' hgrow)
          clear hown' hgrow hbase Q6 c0 c1 c2 c3 f1
          obtain ⟨c0, c1, c2, c3, f1⟩ := QA.out.seen
          try dsimp only
          clear x0 x1 x2 x3 x4 x5 HX2
          go_wp2_with fail
          refine (QA.out.blanks hs hq' HQ9.out).mono ?_
          rintro r WB ⟨rfl, q⟩
          have QB := hide q
          clear q QA c0 c1 c2 c3 f1
          dsimp only
          obtain ⟨c0, c1, c2, c3, f1⟩ := QB.out.seen
          go_wp2_with fail
          go_quiet (fail)
          have QC := hide (QB.out.below (below_drewN _ _ nq))
          clear QB c0 c1 c2 c3 f1
          generalize WB.drewN nq = WC at *
          go_wp2_with fail
          go_ret
          exact rn_end QC.out hl9 HFE.out HFP.out (fun h => absurd h HE0.out)
    · have hnb : ((n : Int) == 32) = false := by simp; omega
      have hn3 : n < 32 := by omega
      clear hn2 hn
      go_wp2_with fail
      refine (Q0.out.blanks hs ha HB.out).mono ?_
      rintro r W1 ⟨rfl, q⟩
      have Q1 := hide q
      clear q c0 c1 c2 c3 f1
      dsimp only
      obtain ⟨c0, c1, c2, c3, f1⟩ := Q1.out.seen
      go_wp2_with fail
      refine (Q1.out.one hs hbs HE.out HP.out HM.out HKK.out).mono ?_
      rintro r W2 ⟨m', q', rfl, q, hq', hm'⟩
      have Q2 := hide q
      have HM' := hide hm'
      clear q hm' Q1 c0 c1 c2 c3 f1
      dsimp only
      obtain ⟨c0, c1, c2, c3, f1⟩ := Q2.out.seen
      unfold mV
      by_cases hE0 : E = 0
      · subst hE0
        obtain ⟨hmm, hqq⟩ := HM'.out rfl
        subst hmm hqq
        have hP0 : P = 0 := by rw [← HP.out]; exact onP_ok HE.out
        subst hP0
        clear HM' HP
        have hKs := hq'
        obtain ⟨cc, hcc⟩ : ∃ cc, q' + blN (s.data.toList.drop q') = cc := ⟨_, rfl⟩
        have hcs : cc ≤ s.size := by have := blN_le (s.data.toList.drop q'); rw [List.length_drop, len_data] at this; omega
        have hbc : b < cc := by
          have h1 := oneD_lt HE.out
          have h2 := HKK.out
          omega
        have hab : a ≤ b := by have := HB.out; omega
        have hlen := Q2.out.len
        have DL : Hid (mayB ms m' = true → _) := fun h => dL_at s.data.toList ms b cc q' m' (by omega) HE.out HM.out h HKK.out hcc
        have DN : Hid (mayB ms m' = false → _) := fun h => dL_apart (ms := ms) (b := b) (r := s.data.toList.drop b) (by omega) HE.out (by rw [HM.out]; exact h)
        have HCC := hide hcc
        have HSZ : Hid (s.data.toList.drop cc = [] ↔ cc = s.size) := by
          show _ ↔ _
          rw [List.drop_eq_nil_iff, len_data]
          omega
        clear hcc hlen
        by_cases hn0 : n = 0
        · subst hn0
          have hms : ms = [] := List.length_eq_zero_iff.1 Q2.out.len
          have DLx := hide (DL.out (by rw [hms]; rfl))
          clear DL DN hms
          have HX := hide (World.alloc_heap_new W2 (.cells #[.bool m'.hasLo, .string (ofL m'.lo), .bool m'.loIn, .bool m'.hasHi, .string (ofL m'.hi), .bool m'.hiIn] 54))
          have hKX : B < W2.heap.size := by have h1 := Q2.out.lt; have h2 := Q2.out.turn.size; omega
          have Q3 := hide (Q2.out.below ((Below.refl _ W2).alloc (Nat.le_refl _) (.cells #[.bool m'.hasLo, .string (ofL m'.lo), .bool m'.loIn, .bool m'.hasHi, .string (ofL m'.hi), .bool m'.hiIn] 54)))
          clear Q2 c0 c1 c2 c3 f1
          obtain ⟨c0, c1, c2, c3, f1⟩ := Q3.out.seen
          go_wp2_with fail
          generalize W2.alloc (.cells #[.bool m'.hasLo, .string (ofL m'.lo), .bool m'.loIn, .bool m'.hasHi, .string (ofL m'.hi), .bool m'.hiIn] 54) = WX at *
          generalize W2.heap.size = KX at *
          have x0 : WX.cell? ⟨KX, 0, none⟩ = some (.bool m'.hasLo) := cell_at 0 HX.out rfl
          have x1 : WX.cell? ⟨KX, 1, none⟩ = some (.string (ofL m'.lo)) := cell_at 1 HX.out rfl
          have x2 : WX.cell? ⟨KX, 2, none⟩ = some (.bool m'.loIn) := cell_at 2 HX.out rfl
          have x3 : WX.cell? ⟨KX, 3, none⟩ = some (.bool m'.hasHi) := cell_at 3 HX.out rfl
          have x4 : WX.cell? ⟨KX, 4, none⟩ = some (.string (ofL m'.hi)) := cell_at 4 HX.out rfl
          have x5 : WX.cell? ⟨KX, 5, none⟩ = some (.bool m'.hiIn) := cell_at 5 HX.out rfl
          go_quiet (fail)
          have Q4 := hide (Q3.out.below (below_drewN _ _ nq))
          have HX2 : Hid ((WX.drewN nq).heap[KX]? = some (.cells #[.bool m'.hasLo, .string (ofL m'.lo), .bool m'.loIn, .bool m'.hasHi, .string (ofL m'.hi), .bool m'.hiIn] 54 (0, 0))) := by show _ = _; rw [heap_drewN]; exact HX.out
          clear Q3 c0 c1 c2 c3 f1 x0 x1 x2 x3 x4 x5 HX
          generalize WX.drewN nq = WY at *
          have x0 : WY.cell? ⟨KX, 0, none⟩ = some (.bool m'.hasLo) := cell_at 0 HX2.out rfl
          have x1 : WY.cell? ⟨KX, 1, none⟩ = some (.string (ofL m'.lo)) := cell_at 1 HX2.out rfl
          have x2 : WY.cell? ⟨KX, 2, none⟩ = some (.bool m'.loIn) := cell_at 2 HX2.out rfl
          have x3 : WY.cell? ⟨KX, 3, none⟩ = some (.bool m'.hasHi) := cell_at 3 HX2.out rfl
          have x4 : WY.cell? ⟨KX, 4, none⟩ = some (.string (ofL m'.hi)) := cell_at 4 HX2.out rfl
          have x5 : WY.cell? ⟨KX, 5, none⟩ = some (.bool m'.hiIn) := cell_at 5 HX2.out rfl
          obtain ⟨c0, c1, c2, c3, f1⟩ := Q4.out.seen
          have hbase : w.heap.size ≤ WY.heap.size := Q4.out.turn.size
          go_wp2_with (at_builtin; refine wpList_append_own _ rfl _ _ 22 rfl w.heap.size 54 i0 (.agg #[.bool false, .string .empty, .bool false, .bool false, .string .empty, .bool false]) 6 56 Tryz.underlying22 hi hz0 hz1 hz2 rfl (by decide) _ _ _ rfl (Q4.out.row.alloc _) ⟨WY.heap.size, 0, none⟩ 1 1 [.bool m'.hasLo, .string (ofL m'.lo), .bool m'.loIn, .bool m'.hasHi, .string (ofL m'.hi), .bool m'.hiIn] rfl rfl (cell_six_new _ _ _ _ _ _ _ _) (rowM_one m') (by unfold maxLen; omega) (by omega) (by simp; omega) ?_; intro v' WA hown' hgrow _; obtain ⟨g', cap', rfl⟩ := ownsRow_succ hown')
          have QA := hide (Q4.out.grow hown' hgrow)
          clear hown' hgrow hbase Q4 c0 c1 c2 c3 f1
          obtain ⟨c0, c1, c2, c3, f1⟩ := QA.out.seen
          try dsimp only
          clear x0 x1 x2 x3 x4 x5 HX2
          go_wp2_with fail
          refine (QA.out.blanks hs hq' HCC.out).mono ?_
          rintro r WB ⟨rfl, q⟩
          have QB := hide q
          clear q QA c0 c1 c2 c3 f1
          dsimp only
          obtain ⟨c0, c1, c2, c3, f1⟩ := QB.out.seen
          by_cases hend : cc = s.size
          · have hendb : ((cc : Int) == (s.size : Int)) = true := by simp; omega
            obtain ⟨k1, k2, k3⟩ := HF.out.ok (DLx.out.1 (HSZ.out.2 hend))
            have HFE := hide k1
            have HFP := hide k2
            have HFM := hide k3
            clear k1 k2 k3 hend
            go_wp2_with fail
            go_quiet (fail)
            have QC := hide (QB.out.below (below_drewN _ _ nq))
            clear QB c0 c1 c2 c3 f1
            generalize WB.drewN nq = WC at *
            go_wp2_with fail
            go_ret
            exact rn_end QC.out hcs HFE.out HFP.out (fun _ => HFM.out)
          · have hendb : ((cc : Int) == (s.size : Int)) = false := by simp; omega
            have hne9 : s.data.toList.drop cc ≠ [] := fun h => hend (HSZ.out.1 h)
            have HNE9 := hide hne9
            have hclt : cc < s.size := by omega
            have hcc1 : cc + 1 ≤ s.size := by omega
            clear hend hne9
            go_wp2_with fail
            go_quiet (fail)
            have QC := hide (QB.out.below (below_drewN _ _ nq))
            clear QB c0 c1 c2 c3 f1
            generalize WB.drewN nq = WC at *
            obtain ⟨c0, c1, c2, c3, f1⟩ := QC.out.seen
            obtain ⟨X, hX⟩ : ∃ X, hdIn [44] (s.data.toList.drop cc) = X := ⟨_, rfl⟩
            have HX9 := hide hX
            clear hX
            go_wp2_with fail
            refine (QC.out.is hs hcs 44 HX9.out).mono ?_
            rintro r WD ⟨rfl, q⟩
            have QD := hide q
            clear q QC c0 c1 c2 c3 f1
            dsimp only
            obtain ⟨c0, c1, c2, c3, f1⟩ := QD.out.seen
            cases X with
            | false =>
              obtain ⟨k1, k2⟩ := HF.out.bad (DLx.out.2.1 HNE9.out HX9.out) (by decide)
              have HFE := hide k1
              have HFP := hide k2
              have hmis : misR (s.data.toList.drop cc) = 10 := by unfold misR; rw [if_neg HNE9.out]
              have HMI := hide hmis
              clear k1 k2 hmis
              go_wp2_with fail
              refine (QD.out.here hcs).mono ?_
              rintro r WE ⟨rfl, q⟩
              replace q : Rn w B s cc (misR (s.data.toList.drop cc)) (cc : Int) _ _ _ _ WE := q
              rw [HMI.out] at q
              have QE := hide q
              clear q QD c0 c1 c2 c3 f1
              dsimp only
              go_wp2_with fail
              go_ret
              exact rn_end QE.out hcs HFE.out HFP.out (fun h => absurd h (by decide))
            | true =>
              have hA := HF.out.trans (DLx.out.2.2 HNE9.out HX9.out)
              have HA := hide hA
              clear hA
              have hmd := Q0.out.rd.dplace
              have HMD := hide hmd
              clear hmd
              go_wp2_with fail
              go_roundw
              case rel => exact ⟨_, cc + 1, _, _, cap', rfl, by omega, hcc1, QD.out.place (cc + 1), HA⟩
              case measure =>
                have h1 : dplace (WD.setCell ⟨B, 1, none⟩ (.int .i64 ((cc : Int) + 1))) B = cc + 1 := (QD.out.rd.place (cc + 1)).dplace
                have h2 := HMD.out
                try rw [h2]
                rw [h1]
                omega
        · obtain ⟨i, hni⟩ : ∃ i, n = i + 1 := ⟨n - 1, by omega⟩
          have HNI := hide hni
          have hw1 : IntKind.i64.wrap ((n : Int) - 1) = (i : Int) := by rw [show (n : Int) - 1 = (i : Int) by omega]; exact wrap_nat i (by omega)
          have hi0 : (0 : Int) ≤ (i : Int) := Int.natCast_nonneg _
          have hi1 : (i : Int) < (n : Int) := by omega
          have hposd : decide (0 < n) = true := by simp; omega
          have hpn : 0 < n := by omega
          clear hni hn0
          have HX := hide (World.alloc_heap_new W2 (.cells #[.bool m'.hasLo, .string (ofL m'.lo), .bool m'.loIn, .bool m'.hasHi, .string (ofL m'.hi), .bool m'.hiIn] 54))
          have hKX : B < W2.heap.size := by have h1 := Q2.out.lt; have h2 := Q2.out.turn.size; omega
          have Q3 := hide (Q2.out.below ((Below.refl _ W2).alloc (Nat.le_refl _) (.cells #[.bool m'.hasLo, .string (ofL m'.lo), .bool m'.loIn, .bool m'.hasHi, .string (ofL m'.hi), .bool m'.hiIn] 54)))
          clear Q2 c0 c1 c2 c3 f1
          obtain ⟨c0, c1, c2, c3, f1⟩ := Q3.out.seen
          go_wp2_with fail
          generalize W2.alloc (.cells #[.bool m'.hasLo, .string (ofL m'.lo), .bool m'.loIn, .bool m'.hasHi, .string (ofL m'.hi), .bool m'.hiIn] 54) = WX at *
          generalize W2.heap.size = KX at *
          have x0 : WX.cell? ⟨KX, 0, none⟩ = some (.bool m'.hasLo) := cell_at 0 HX.out rfl
          have x1 : WX.cell? ⟨KX, 1, none⟩ = some (.string (ofL m'.lo)) := cell_at 1 HX.out rfl
          have x2 : WX.cell? ⟨KX, 2, none⟩ = some (.bool m'.loIn) := cell_at 2 HX.out rfl
          have x3 : WX.cell? ⟨KX, 3, none⟩ = some (.bool m'.hasHi) := cell_at 3 HX.out rfl
          have x4 : WX.cell? ⟨KX, 4, none⟩ = some (.string (ofL m'.hi)) := cell_at 4 HX.out rfl
          have x5 : WX.cell? ⟨KX, 5, none⟩ = some (.bool m'.hiIn) := cell_at 5 HX.out rfl
          obtain ⟨g0, o0, mb, rfl, hmay, y0, y1, y2, y3, y4, y5⟩ := Q3.out.last HNI.out
          rw [hmay] at DL DN
          clear hmay
          have RB := hide (fun W => Rbehind_any mb m' W)
          unfold mV at RB
          generalize partedL mb m' = Y at *
          go_region_held3 (fun W' => W'.cell? ⟨B, 2, none⟩ = some (.int .i64 0) ∧ W'.cell? ⟨g0, o0 + i * 6, none⟩ = some (.bool mb.hasLo) ∧ W'.cell? ⟨g0, o0 + i * 6 + 1, none⟩ = some (.string (ofL mb.lo)) ∧ W'.cell? ⟨g0, o0 + i * 6 + 2, none⟩ = some (.bool mb.loIn) ∧ W'.cell? ⟨g0, o0 + i * 6 + 3, none⟩ = some (.bool mb.hasHi) ∧ W'.cell? ⟨g0, o0 + i * 6 + 4, none⟩ = some (.string (ofL mb.hi)) ∧ W'.cell? ⟨g0, o0 + i * 6 + 5, none⟩ = some (.bool mb.hiIn) ∧ W'.cell? ⟨KX, 0, none⟩ = some (.bool m'.hasLo) ∧ W'.cell? ⟨KX, 1, none⟩ = some (.string (ofL m'.lo)) ∧ W'.cell? ⟨KX, 2, none⟩ = some (.bool m'.loIn) ∧ W'.cell? ⟨KX, 3, none⟩ = some (.bool m'.hasHi) ∧ W'.cell? ⟨KX, 4, none⟩ = some (.string (ofL m'.hi)) ∧ W'.cell? ⟨KX, 5, none⟩ = some (.bool m'.hiIn)) (go_keep) ((go_at_call 54; refine (RB.out _).mono ?_; rintro r WY ⟨rfl, b7⟩; have c2' := cell_on (W := WX.drew) c2 b7; have y0' := cell_on (W := WX.drew) y0 b7; have y1' := cell_on (W := WX.drew) y1 b7; have y2' := cell_on (W := WX.drew) y2 b7; have y3' := cell_on (W := WX.drew) y3 b7; have y4' := cell_on (W := WX.drew) y4 b7; have y5' := cell_on (W := WX.drew) y5 b7; have x0' := cell_on (W := WX.drew) x0 b7; have x1' := cell_on (W := WX.drew) x1 b7; have x2' := cell_on (W := WX.drew) x2 b7; have x3' := cell_on (W := WX.drew) x3 b7; have x4' := cell_on (W := WX.drew) x4 b7; have x5' := cell_on (W := WX.drew) x5 b7))
          have Q4 := hide ((Q3.out.below (drew_below _ _)).below b7)
          have HX2 : Hid (WY.heap[KX]? = some (.cells #[.bool m'.hasLo, .string (ofL m'.lo), .bool m'.loIn, .bool m'.hasHi, .string (ofL m'.hi), .bool m'.hiIn] 54 (0, 0))) := (b7.block KX (Array.getElem?_eq_some_iff.1 HX.out).1).trans HX.out
          clear Q3 HX b7 c0 c1 c2 c3 f1 x0 x1 x2 x3 x4 x5 y0 y1 y2 y3 y4 y5 c2' x0' x1' x2' x3' x4' x5' y0' y1' y2' y3' y4' y5' RB
          cases Y with
          | true =>
            have DLx := hide (DL.out rfl)
            clear DL DN
            have x0 : WY.cell? ⟨KX, 0, none⟩ = some (.bool m'.hasLo) := cell_at 0 HX2.out rfl
            have x1 : WY.cell? ⟨KX, 1, none⟩ = some (.string (ofL m'.lo)) := cell_at 1 HX2.out rfl
            have x2 : WY.cell? ⟨KX, 2, none⟩ = some (.bool m'.loIn) := cell_at 2 HX2.out rfl
            have x3 : WY.cell? ⟨KX, 3, none⟩ = some (.bool m'.hasHi) := cell_at 3 HX2.out rfl
            have x4 : WY.cell? ⟨KX, 4, none⟩ = some (.string (ofL m'.hi)) := cell_at 4 HX2.out rfl
            have x5 : WY.cell? ⟨KX, 5, none⟩ = some (.bool m'.hiIn) := cell_at 5 HX2.out rfl
            obtain ⟨c0, c1, c2, c3, f1⟩ := Q4.out.seen
            have hbase : w.heap.size ≤ WY.heap.size := Q4.out.turn.size
            go_wp2_with (at_builtin; refine wpList_append_own _ rfl _ _ 22 rfl w.heap.size 54 i0 (.agg #[.bool false, .string .empty, .bool false, .bool false, .string .empty, .bool false]) 6 56 Tryz.underlying22 hi hz0 hz1 hz2 rfl (by decide) _ _ _ rfl (Q4.out.row.alloc _) ⟨WY.heap.size, 0, none⟩ 1 1 [.bool m'.hasLo, .string (ofL m'.lo), .bool m'.loIn, .bool m'.hasHi, .string (ofL m'.hi), .bool m'.hiIn] rfl rfl (cell_six_new _ _ _ _ _ _ _ _) (rowM_one m') (by unfold maxLen; omega) (by omega) (by simp; omega) ?_; intro v' WA hown' hgrow _; obtain ⟨g', cap', rfl⟩ := ownsRow_succ hown')
            have QA := hide (Q4.out.grow hown' hgrow)
            clear hown' hgrow hbase Q4 c0 c1 c2 c3 f1
            obtain ⟨c0, c1, c2, c3, f1⟩ := QA.out.seen
            try dsimp only
            clear x0 x1 x2 x3 x4 x5 HX2
            go_wp2_with fail
            refine (QA.out.blanks hs hq' HCC.out).mono ?_
            rintro r WB ⟨rfl, q⟩
            have QB := hide q
            clear q QA c0 c1 c2 c3 f1
            dsimp only
            obtain ⟨c0, c1, c2, c3, f1⟩ := QB.out.seen
            by_cases hend : cc = s.size
            · have hendb : ((cc : Int) == (s.size : Int)) = true := by simp; omega
              obtain ⟨k1, k2, k3⟩ := HF.out.ok (DLx.out.1 (HSZ.out.2 hend))
              have HFE := hide k1
              have HFP := hide k2
              have HFM := hide k3
              clear k1 k2 k3 hend
              go_wp2_with fail
              go_quiet (fail)
              have QC := hide (QB.out.below (below_drewN _ _ nq))
              clear QB c0 c1 c2 c3 f1
              generalize WB.drewN nq = WC at *
              go_wp2_with fail
              go_ret
              exact rn_end QC.out hcs HFE.out HFP.out (fun _ => HFM.out)
            · have hendb : ((cc : Int) == (s.size : Int)) = false := by simp; omega
              have hne9 : s.data.toList.drop cc ≠ [] := fun h => hend (HSZ.out.1 h)
              have HNE9 := hide hne9
              have hclt : cc < s.size := by omega
              have hcc1 : cc + 1 ≤ s.size := by omega
              clear hend hne9
              go_wp2_with fail
              go_quiet (fail)
              have QC := hide (QB.out.below (below_drewN _ _ nq))
              clear QB c0 c1 c2 c3 f1
              generalize WB.drewN nq = WC at *
              obtain ⟨c0, c1, c2, c3, f1⟩ := QC.out.seen
              obtain ⟨X, hX⟩ : ∃ X, hdIn [44] (s.data.toList.drop cc) = X := ⟨_, rfl⟩
              have HX9 := hide hX
              clear hX
              go_wp2_with fail
              refine (QC.out.is hs hcs 44 HX9.out).mono ?_
              rintro r WD ⟨rfl, q⟩
              have QD := hide q
              clear q QC c0 c1 c2 c3 f1
              dsimp only
              obtain ⟨c0, c1, c2, c3, f1⟩ := QD.out.seen
              cases X with
              | false =>
                obtain ⟨k1, k2⟩ := HF.out.bad (DLx.out.2.1 HNE9.out HX9.out) (by decide)
                have HFE := hide k1
                have HFP := hide k2
                have hmis : misR (s.data.toList.drop cc) = 10 := by unfold misR; rw [if_neg HNE9.out]
                have HMI := hide hmis
                clear k1 k2 hmis
                go_wp2_with fail
                refine (QD.out.here hcs).mono ?_
                rintro r WE ⟨rfl, q⟩
                replace q : Rn w B s cc (misR (s.data.toList.drop cc)) (cc : Int) _ _ _ _ WE := q
                rw [HMI.out] at q
                have QE := hide q
                clear q QD c0 c1 c2 c3 f1
                dsimp only
                go_wp2_with fail
                go_ret
                exact rn_end QE.out hcs HFE.out HFP.out (fun h => absurd h (by decide))
              | true =>
                have hA := HF.out.trans (DLx.out.2.2 HNE9.out HX9.out)
                have HA := hide hA
                clear hA
                have hmd := Q0.out.rd.dplace
                have HMD := hide hmd
                clear hmd
                go_wp2_with fail
                go_roundw
                case rel => exact ⟨_, cc + 1, _, _, cap', rfl, by omega, hcc1, QD.out.place (cc + 1), HA⟩
                case measure =>
                  have h1 : dplace (WD.setCell ⟨B, 1, none⟩ (.int .i64 ((cc : Int) + 1))) B = cc + 1 := (QD.out.rd.place (cc + 1)).dplace
                  have h2 := HMD.out
                  try rw [h2]
                  rw [h1]
                  omega
          | false =>
            obtain ⟨k1, k2⟩ := HF.out.bad (DN.out rfl) (by decide)
            have HFE := hide k1
            have HFP := hide k2
            have HE0 : Hid ((21 : Int) ≠ 0) := (by decide : (21 : Int) ≠ 0)
            clear k1 k2 DL DN
            obtain ⟨q9, hq9⟩ : ∃ q9, q' + blN (s.data.toList.drop q') = q9 := ⟨_, rfl⟩
            have hl9 : q9 ≤ s.size := by have := blN_le (s.data.toList.drop q'); rw [List.length_drop, len_data] at this; omega
            have HQ9 := hide hq9
            clear hq9
            obtain ⟨c0, c1, c2, c3, f1⟩ := Q4.out.seen
            go_wp2_with fail
            refine (Rfail_any B s q' 0 0 21 (b : Int) WY Q4.out.rd).mono ?_
            rintro r WZ ⟨rfl, t, d⟩
            replace d : DrAt WZ B s q' 21 (b : Int) := d
            have Q5 := hide (Q4.out.next t d)
            have HX3 : Hid (WZ.heap[KX]? = some (.cells #[.bool m'.hasLo, .string (ofL m'.lo), .bool m'.loIn, .bool m'.hasHi, .string (ofL m'.hi), .bool m'.hiIn] 54 (0, 0))) := (t.block KX (Array.getElem?_eq_some_iff.1 HX2.out).1 (by omega)).trans HX2.out
            clear t d Q4 HX2 c0 c1 c2 c3 f1
            dsimp only
            skip
            have x0 : WZ.cell? ⟨KX, 0, none⟩ = some (.bool m'.hasLo) := cell_at 0 HX3.out rfl
            have x1 : WZ.cell? ⟨KX, 1, none⟩ = some (.string (ofL m'.lo)) := cell_at 1 HX3.out rfl
            have x2 : WZ.cell? ⟨KX, 2, none⟩ = some (.bool m'.loIn) := cell_at 2 HX3.out rfl
            have x3 : WZ.cell? ⟨KX, 3, none⟩ = some (.bool m'.hasHi) := cell_at 3 HX3.out rfl
            have x4 : WZ.cell? ⟨KX, 4, none⟩ = some (.string (ofL m'.hi)) := cell_at 4 HX3.out rfl
            have x5 : WZ.cell? ⟨KX, 5, none⟩ = some (.bool m'.hiIn) := cell_at 5 HX3.out rfl
            obtain ⟨c0, c1, c2, c3, f1⟩ := Q5.out.seen
            have hbase : w.heap.size ≤ WZ.heap.size := Q5.out.turn.size
            go_wp2_with (at_builtin; refine wpList_append_own _ rfl _ _ 22 rfl w.heap.size 54 i0 (.agg #[.bool false, .string .empty, .bool false, .bool false, .string .empty, .bool false]) 6 56 Tryz.underlying22 hi hz0 hz1 hz2 rfl (by decide) _ _ _ rfl (Q5.out.row.alloc _) ⟨WZ.heap.size, 0, none⟩ 1 1 [.bool m'.hasLo, .string (ofL m'.lo), .bool m'.loIn, .bool m'.hasHi, .string (ofL m'.hi), .bool m'.hiIn] rfl rfl (cell_six_new _ _ _ _ _ _ _ _) (rowM_one m') (by unfold maxLen; omega) (by omega) (by simp; omega) ?_; intro v' WA hown' hgrow _; obtain ⟨g', cap', rfl⟩ := ownsRow_succ hown')
            have QA := hide (Q5.out.grow hown' hgrow)
            clear hown' hgrow hbase Q5 c0 c1 c2 c3 f1
            obtain ⟨c0, c1, c2, c3, f1⟩ := QA.out.seen
            try dsimp only
            clear x0 x1 x2 x3 x4 x5 HX3
            go_wp2_with fail
            refine (QA.out.blanks hs hq' HQ9.out).mono ?_
            rintro r WB ⟨rfl, q⟩
            have QB := hide q
            clear q QA c0 c1 c2 c3 f1
            dsimp only
            obtain ⟨c0, c1, c2, c3, f1⟩ := QB.out.seen
            go_wp2_with fail
            go_quiet (fail)
            have QC := hide (QB.out.below (below_drewN _ _ nq))
            clear QB c0 c1 c2 c3 f1
            generalize WB.drewN nq = WC at *
            go_wp2_with fail
            go_ret
            exact rn_end QC.out hl9 HFE.out HFP.out (fun h => absurd h HE0.out)
      · skip
        have hEb : (E == 0) = false := by simpa using hE0
        have hEn : (E != 0) = true := by simpa using hE0
        have HE0 := hide hE0
        have hlen := Q2.out.len
        obtain ⟨hFE, hFP⟩ := HF.out.bad (dL_bad (.inl (by omega)) (by rw [HE.out]; exact hE0)) (by rw [HE.out]; exact hE0)
        rw [HE.out] at hFE
        rw [HKK.out, ← onP_bad HE.out hE0 HKK.out, HP.out] at hFP
        have HFE := hide hFE
        have HFP := hide hFP
        clear hE0 hFE hFP hlen
        obtain ⟨q9, hq9⟩ : ∃ q9, q' + blN (s.data.toList.drop q') = q9 := ⟨_, rfl⟩
        have hl9 : q9 ≤ s.size := by have := blN_le (s.data.toList.drop q'); rw [List.length_drop, len_data] at this; omega
        have HQ9 := hide hq9
        clear hq9
        have HX := hide (World.alloc_heap_new W2 (.cells #[.bool m'.hasLo, .string (ofL m'.lo), .bool m'.loIn, .bool m'.hasHi, .string (ofL m'.hi), .bool m'.hiIn] 54))
        have hKX : B < W2.heap.size := by have h1 := Q2.out.lt; have h2 := Q2.out.turn.size; omega
        have Q3 := hide (Q2.out.below ((Below.refl _ W2).alloc (Nat.le_refl _) (.cells #[.bool m'.hasLo, .string (ofL m'.lo), .bool m'.loIn, .bool m'.hasHi, .string (ofL m'.hi), .bool m'.hiIn] 54)))
        clear Q2 c0 c1 c2 c3 f1
        obtain ⟨c0, c1, c2, c3, f1⟩ := Q3.out.seen
        go_wp2_with fail
        generalize W2.alloc (.cells #[.bool m'.hasLo, .string (ofL m'.lo), .bool m'.loIn, .bool m'.hasHi, .string (ofL m'.hi), .bool m'.hiIn] 54) = WX at *
        generalize W2.heap.size = KX at *
        have x0 : WX.cell? ⟨KX, 0, none⟩ = some (.bool m'.hasLo) := cell_at 0 HX.out rfl
        have x1 : WX.cell? ⟨KX, 1, none⟩ = some (.string (ofL m'.lo)) := cell_at 1 HX.out rfl
        have x2 : WX.cell? ⟨KX, 2, none⟩ = some (.bool m'.loIn) := cell_at 2 HX.out rfl
        have x3 : WX.cell? ⟨KX, 3, none⟩ = some (.bool m'.hasHi) := cell_at 3 HX.out rfl
        have x4 : WX.cell? ⟨KX, 4, none⟩ = some (.string (ofL m'.hi)) := cell_at 4 HX.out rfl
        have x5 : WX.cell? ⟨KX, 5, none⟩ = some (.bool m'.hiIn) := cell_at 5 HX.out rfl
        go_quiet (fail)
        have Q4 := hide (Q3.out.below (below_drewN _ _ nq))
        have HX2 : Hid ((WX.drewN nq).heap[KX]? = some (.cells #[.bool m'.hasLo, .string (ofL m'.lo), .bool m'.loIn, .bool m'.hasHi, .string (ofL m'.hi), .bool m'.hiIn] 54 (0, 0))) := by show _ = _; rw [heap_drewN]; exact HX.out
        clear Q3 c0 c1 c2 c3 f1 x0 x1 x2 x3 x4 x5 HX
        generalize WX.drewN nq = WY at *
        have x0 : WY.cell? ⟨KX, 0, none⟩ = some (.bool m'.hasLo) := cell_at 0 HX2.out rfl
        have x1 : WY.cell? ⟨KX, 1, none⟩ = some (.string (ofL m'.lo)) := cell_at 1 HX2.out rfl
        have x2 : WY.cell? ⟨KX, 2, none⟩ = some (.bool m'.loIn) := cell_at 2 HX2.out rfl
        have x3 : WY.cell? ⟨KX, 3, none⟩ = some (.bool m'.hasHi) := cell_at 3 HX2.out rfl
        have x4 : WY.cell? ⟨KX, 4, none⟩ = some (.string (ofL m'.hi)) := cell_at 4 HX2.out rfl
        have x5 : WY.cell? ⟨KX, 5, none⟩ = some (.bool m'.hiIn) := cell_at 5 HX2.out rfl
        obtain ⟨c0, c1, c2, c3, f1⟩ := Q4.out.seen
        have hbase : w.heap.size ≤ WY.heap.size := Q4.out.turn.size
        go_wp2_with (at_builtin; refine wpList_append_own _ rfl _ _ 22 rfl w.heap.size 54 i0 (.agg #[.bool false, .string .empty, .bool false, .bool false, .string .empty, .bool false]) 6 56 Tryz.underlying22 hi hz0 hz1 hz2 rfl (by decide) _ _ _ rfl (Q4.out.row.alloc _) ⟨WY.heap.size, 0, none⟩ 1 1 [.bool m'.hasLo, .string (ofL m'.lo), .bool m'.loIn, .bool m'.hasHi, .string (ofL m'.hi), .bool m'.hiIn] rfl rfl (cell_six_new _ _ _ _ _ _ _ _) (rowM_one m') (by unfold maxLen; omega) (by omega) (by simp; omega) ?_; intro v' WA hown' hgrow _; obtain ⟨g', cap', rfl⟩ := ownsRow_succ hown')
        have QA := hide (Q4.out.grow hown' hgrow)
        clear hown' hgrow hbase Q4 c0 c1 c2 c3 f1
        obtain ⟨c0, c1, c2, c3, f1⟩ := QA.out.seen
        try dsimp only
        clear x0 x1 x2 x3 x4 x5 HX2
        go_wp2_with fail
        refine (QA.out.blanks hs hq' HQ9.out).mono ?_
        rintro r WB ⟨rfl, q⟩
        have QB := hide q
        clear q QA c0 c1 c2 c3 f1
        dsimp only
        obtain ⟨c0, c1, c2, c3, f1⟩ := QB.out.seen
        go_wp2_with fail
        go_quiet (fail)
        have QC := hide (QB.out.below (below_drewN _ _ nq))
        clear QB c0 c1 c2 c3 f1
        generalize WB.drewN nq = WC at *
        go_wp2_with fail
        go_ret
        exact rn_end QC.out hl9 HFE.out HFP.out (fun h => absurd h HE0.out)

end Go.Proofs.YtpedljmpobhimaaGreatDoor

/-
  Walks: the document's Parse.
-/
namespace Go.Proofs.YtpedljmpobhimaaGreatDoor
open Go.RowKit Go.Shelf
set_option linter.unusedVariables false

theorem fin7 {R : Ending → World → Prop} (tmps : Array Value) (W : World) (A B : Nat) (s : ByteArray) (a : Option Addr) (n c : Nat) (e p : Value) (h1 : tmps.getD 2 undef = .pointer (some ⟨A, 0, none⟩)) (h2 : tmps.getD 3 undef = .pointer (some ⟨B, 0, none⟩))
    (e0 : W.heap[A]? = some (.cells #[.string s, .slice a n c] 24 (0, 0))) (e1 : W.heap[B]? = some (.cells #[e, p] 27 (0, 0)))
    (hR : R (.returned (.tuple #[.agg #[.string s, .slice a n c], .agg #[e, p]])) W) :
    bodyPost Tryz.prog Tryz.f7 R .ret { tmps := tmps, defers := [] } W := by
  have q0 := cell_at 0 e0 rfl
  have q1 := cell_at 1 e0 rfl
  have r0 := cell_at 0 e1 rfl
  have r1 := cell_at 1 e1 rfl
  rw [Array.getD_eq_getD_getElem?] at h1 h2
  refine ⟨rfl, _, ?_, hR⟩
  simp [results, Tryz.results7, go_sem, h1, h2, q0, q1, r0, r1]
  try rfl
/-- The document's Parse at work: both results, the reader, and what it has read. -/
structure Pn (w : World) (s : ByteArray) (a : Nat) (e p : Int) (t : List UInt8) (v : Value) (W : World) : Prop where
  cells : W.heap[w.heap.size]? = some (.cells #[.string ⟨#[]⟩, .slice none 0 0] 24 (0, 0))
  flt : W.heap[w.heap.size + 1]? = some (.cells #[.int .i64 0, .int .i64 0] 27 (0, 0))
  rd : DrAt W (w.heap.size + 2) s a e p
  box : W.heap[w.heap.size + 3]? = some (.cells #[.string (ofL t), v] 24 (0, 0))
  bel : Below w.heap.size w W
theorem Pn.lt {w W : World} {s : ByteArray} {a : Nat} {e p : Int} {t : List UInt8} {v : Value} (h : Pn w s a e p t v W) : w.heap.size + 3 < W.heap.size := (Array.getElem?_eq_some_iff.1 h.box).1
theorem Pn.next {w W W' : World} {s : ByteArray} {a a' : Nat} {e p e' p' : Int} {t : List UInt8} {v : Value} (h : Pn w s a e p t v W) (tn : Turn (w.heap.size + 2) W W') (d : DrAt W' (w.heap.size + 2) s a' e' p') : Pn w s a' e' p' t v W' := by
  have hl := h.lt
  exact ⟨(tn.block _ (by omega) (by omega)).trans h.cells, (tn.block _ (by omega) (by omega)).trans h.flt, d, (tn.block _ (by omega) (by omega)).trans h.box, h.bel.trans (tn.below (by omega) (by omega))⟩
theorem Pn.below {w W W' : World} {s : ByteArray} {a : Nat} {e p : Int} {t : List UInt8} {v : Value} (h : Pn w s a e p t v W) (hb : Below W.heap.size W W') : Pn w s a e p t v W' := h.next (Turn.ofBelow hb) (h.rd.below hb)
theorem Pn.soft {w W : World} {s : ByteArray} {a : Nat} {e p : Int} {t : List UInt8} {v : Value} (h : Pn w s a e p t v W) (u : List UInt8) : Pn w s a e p u v (W.setCell ⟨w.heap.size + 3, 0, none⟩ (.string (ofL u))) :=
  ⟨(Below.heap_setCell _ _ _ _ (by simp only; omega)).trans h.cells, (Below.heap_setCell _ _ _ _ (by simp only; omega)).trans h.flt, (Below.heap_setCell _ _ _ _ (by simp only; omega)).trans h.rd, set_lies 0 _ h.box, h.bel.setCell (by simp only; omega) _⟩
theorem Pn.rows {w W : World} {s : ByteArray} {a : Nat} {e p : Int} {t : List UInt8} {v : Value} (h : Pn w s a e p t v W) (u : Value) : Pn w s a e p t u (W.setCell ⟨w.heap.size + 3, 1, none⟩ u) :=
  ⟨(Below.heap_setCell _ _ _ _ (by simp only; omega)).trans h.cells, (Below.heap_setCell _ _ _ _ (by simp only; omega)).trans h.flt, (Below.heap_setCell _ _ _ _ (by simp only; omega)).trans h.rd, set_lies 1 _ h.box, h.bel.setCell (by simp only; omega) _⟩
theorem Pn.seen {w W : World} {s : ByteArray} {a : Nat} {e p : Int} {t : List UInt8} {v : Value} (h : Pn w s a e p t v W) :
    (W.frozen? ⟨w.heap.size, 0, none⟩ = false ∧ W.frozen? ⟨w.heap.size, 1, none⟩ = false ∧ W.frozen? ⟨w.heap.size + 1, 0, none⟩ = false ∧ W.frozen? ⟨w.heap.size + 1, 1, none⟩ = false ∧
    W.cell? ⟨w.heap.size, 0, none⟩ = some (.string ⟨#[]⟩) ∧ W.cell? ⟨w.heap.size, 1, none⟩ = some (.slice none 0 0) ∧ W.cell? ⟨w.heap.size + 1, 0, none⟩ = some (.int .i64 0) ∧ W.cell? ⟨w.heap.size + 1, 1, none⟩ = some (.int .i64 0)) ∧
    (W.cell? ⟨w.heap.size + 2, 1, none⟩ = some (.int .i64 (a : Int)) ∧ W.cell? ⟨w.heap.size + 2, 2, none⟩ = some (.int .i64 e) ∧ W.cell? ⟨w.heap.size + 2, 3, none⟩ = some (.int .i64 p)) ∧
    (W.cell? ⟨w.heap.size + 3, 0, none⟩ = some (.string (ofL t)) ∧ W.cell? ⟨w.heap.size + 3, 1, none⟩ = some v ∧ W.frozen? ⟨w.heap.size + 3, 0, none⟩ = false ∧ W.frozen? ⟨w.heap.size + 3, 1, none⟩ = false) := by
  obtain ⟨c0, c1, c2, c3, f1, f2, f3⟩ := h.rd.seen
  exact ⟨⟨one_free 0 h.cells, one_free 1 h.cells, one_free 0 h.flt, one_free 1 h.flt, cell_at 0 h.cells rfl, cell_at 1 h.cells rfl, cell_at 0 h.flt rfl, cell_at 1 h.flt rfl⟩, ⟨c1, c2, c3⟩, cell_at 0 h.box rfl, cell_at 1 h.box rfl, one_free 0 h.box, one_free 1 h.box⟩
theorem alloc_at (W : World) (o : Obj) (k : Nat) (hk : k = W.heap.size) : (W.alloc o).heap[k]? = some o := by subst hk; exact World.alloc_heap_new W o
theorem Pn.start (w : World) (s : ByteArray) : Pn w s 0 0 0 [] (.slice none 0 0) ((((w.alloc (.cells #[.string ⟨#[]⟩, .slice none 0 0] 24)).alloc (.cells #[.int .i64 0, .int .i64 0] 27)).alloc (.cells #[.string s, .int .i64 0, .int .i64 0, .int .i64 0] 48)).alloc (.cells #[.string ⟨#[]⟩, .slice none 0 0] 24)) := by
  refine ⟨?_, ?_, ?_, ?_, ?_⟩
  · exact (Below.heap_alloc _ _ _ (by simp only [World.size_alloc]; omega)).trans ((Below.heap_alloc _ _ _ (by simp only [World.size_alloc]; omega)).trans ((Below.heap_alloc _ _ _ (by simp only [World.size_alloc]; omega)).trans (World.alloc_heap_new w _)))
  · exact (Below.heap_alloc _ _ _ (by simp only [World.size_alloc]; omega)).trans ((Below.heap_alloc _ _ _ (by simp only [World.size_alloc]; omega)).trans (alloc_at _ _ _ (by simp only [World.size_alloc])))
  · exact (Below.heap_alloc _ _ _ (by simp only [World.size_alloc]; omega)).trans (alloc_at _ _ _ (by simp only [World.size_alloc]))
  · exact alloc_at _ _ _ (by simp only [World.size_alloc])
  · exact ((((Below.refl _ w).alloc (Nat.le_refl _) _).alloc (by simp only [World.size_alloc]; omega) _).alloc (by simp only [World.size_alloc]; omega) _).alloc (by simp only [World.size_alloc]; omega) _
theorem Pn.put {w W : World} {s : ByteArray} {a : Nat} {e p : Int} {t : List UInt8} {v : Value} (h : Pn w s a e p t v W) (a0 b0 c0 d0 : Value) : (st4 w W a0 b0 c0 d0).heap[w.heap.size]? = some (.cells #[a0, b0] 24 (0, 0)) ∧ (st4 w W a0 b0 c0 d0).heap[w.heap.size + 1]? = some (.cells #[c0, d0] 27 (0, 0)) ∧ Below w.heap.size w (st4 w W a0 b0 c0 d0) := by
  have h1 := put2 a0 b0 h.cells
  have h2 : ((W.setCell ⟨w.heap.size, 0, none⟩ a0).setCell ⟨w.heap.size, 1, none⟩ b0).heap[w.heap.size + 1]? = some (.cells #[.int .i64 0, .int .i64 0] 27 (0, 0)) := (Below.heap_setCell _ _ _ _ (by simp only; omega)).trans ((Below.heap_setCell _ _ _ _ (by simp only; omega)).trans h.flt)
  refine ⟨(Below.heap_setCell _ _ _ _ (by simp only; omega)).trans ((Below.heap_setCell _ _ _ _ (by simp only; omega)).trans h1), put2 c0 d0 h2, ?_⟩
  exact (((h.bel.setCell (p := ⟨w.heap.size, 0, none⟩) (by simp only; omega) _).setCell (p := ⟨w.heap.size, 1, none⟩) (by simp only; omega) _).setCell (p := ⟨w.heap.size + 1, 0, none⟩) (by simp only; omega) _).setCell (p := ⟨w.heap.size + 1, 1, none⟩) (by simp only; omega) _
/-- The last step. -/
theorem pn_end {w W : World} {s : ByteArray} {a : Nat} {e p : Int} {t : List UInt8} {v : Value} (Z : Pn w s a e p t v W) (so : List UInt8) (ao : Option Addr) (n c : Nat) (e' : Int) (p' : Nat) (ms : List Mr) (P : Pa) (hP : P = ⟨e', p', so, ms⟩) (hm : MrsN (w.heap.size + 2) W (.slice ao n c) ms) (tmps : Array Value)
    (h1 : tmps.getD 2 undef = .pointer (some ⟨w.heap.size, 0, none⟩)) (h2 : tmps.getD 3 undef = .pointer (some ⟨w.heap.size + 1, 0, none⟩)) :
    bodyPost Tryz.prog Tryz.f7 (PaPost P w) .ret { tmps := tmps, defers := [] } (st4 w W (.string (ofL so)) (.slice ao n c) (.int .i64 e') (.int .i64 (p' : Int))).drew ∧
    bodyPost Tryz.prog Tryz.f7 (PaPost P w) .ret { tmps := tmps, defers := [] } (st4 w W (.string (ofL so)) (.slice ao n c) (.int .i64 e') (.int .i64 (p' : Int))) := by
  subst hP
  obtain ⟨k1, k2, k3⟩ := Z.put (.string (ofL so)) (.slice ao n c) (.int .i64 e') (.int .i64 (p' : Int))
  refine ⟨fin7 _ _ w.heap.size (w.heap.size + 1) _ _ _ _ _ _ h1 h2 k1 k2 ⟨_, rfl, ?_, k3.trans (drew_below _ _)⟩, fin7 _ _ w.heap.size (w.heap.size + 1) _ _ _ _ _ _ h1 h2 k1 k2 ⟨_, rfl, ?_, k3⟩⟩
  · exact hm.keep (by omega) (fun b hb _ => st4_other b (by omega) (by omega))
  · exact hm.keep (by omega) (fun b hb _ => st4_other b (by omega) (by omega))

theorem pa_soft_bad {l : List UInt8} (h0 : ¬ 256 < l.length) (h1 : hdIn [91, 40] (l.drop (blN l)) = false) (hb : vBad l = true) : paL l = ⟨19, blN l, [], []⟩ := by
  unfold paL softL
  rw [if_neg h0, h1, if_neg (by simp), rv_bad hb, if_pos (by simp)]
theorem pa_soft_mis {l : List UInt8} (h0 : ¬ 256 < l.length) (h1 : hdIn [91, 40] (l.drop (blN l)) = false) (hb : vBad l = false) (h2 : verAt l = [] ∨ vK l < l.length) : paL l = ⟨misR (l.drop (vK l)), vK l, [], []⟩ := by
  unfold paL softL
  rw [if_neg h0, h1, if_neg (by simp), rv_good hb, if_neg (by simp), if_pos h2]
theorem pa_soft_ok {l : List UInt8} (h0 : ¬ 256 < l.length) (h1 : hdIn [91, 40] (l.drop (blN l)) = false) (hb : vBad l = false) (h2 : verAt l ≠ []) (h3 : vK l = l.length) : paL l = ⟨0, 0, verAt l, []⟩ := by
  unfold paL softL
  rw [if_neg h0, h1, if_neg (by simp), rv_good hb, if_neg (by simp), if_neg]
  rintro (h | h)
  · exact h2 h
  · simp only at h; omega
theorem pa_rng {l : List UInt8} (h0 : ¬ 256 < l.length) (h1 : hdIn [91, 40] (l.drop (blN l)) = true) : ((dL [] (blN l) (l.drop (blN l))).err ≠ 0 → paL l = ⟨(dL [] (blN l) (l.drop (blN l))).err, (dL [] (blN l) (l.drop (blN l))).at', [], []⟩) ∧ ((dL [] (blN l) (l.drop (blN l))).err = 0 → paL l = ⟨0, 0, [], (dL [] (blN l) (l.drop (blN l))).ms⟩) := by
  rw [← dL_start l h1]
  unfold paL
  rw [if_neg h0, h1, if_pos rfl]
  exact ⟨fun h => by rw [if_pos h], fun h => by rw [if_neg (by simpa using h)]⟩

set_option maxRecDepth 100000 in
set_option maxHeartbeats 8000000 in
theorem RParseM_any (s : ByteArray) (w : World) : Calls Tryz.prog 7 #[.string s] w (PaPost (paL s.data.toList) w) := by
  by_cases h : 256 < s.size
  · have hX : paL s.data.toList = ⟨12, 256, [], []⟩ := by unfold paL; rw [if_pos (by rw [len_data]; exact h)]
    have HX := hide hX
    have h' : (256 : Int) < (s.size : Int) := by omega
    clear h hX
    go_enter Tryz.func7, Tryz.ntmps7
    go_wp2_with fail
    have k := World.alloc_heap_new (w.alloc (.cells #[.string ⟨#[]⟩, .slice none 0 0] 24)) (.cells #[.int .i64 12, .int .i64 256] 27)
    rw [World.size_alloc] at k
    rw [HX.out]
    exact fin7 _ _ w.heap.size (w.heap.size + 1) ⟨#[]⟩ none 0 0 _ _ rfl rfl ((Below.heap_alloc _ _ _ (by simp)).trans (World.alloc_heap_new w _)) k ⟨_, rfl, MrsN.none _ _, ((Below.refl _ w).alloc (Nat.le_refl _) _).alloc (by simp) _⟩
  · have hs : s.size ≤ 256 := by omega
    have h' : ¬ (256 : Int) < (s.size : Int) := by omega
    have h0 : ¬ 256 < s.data.toList.length := by rw [len_data]; exact h
    have H0 := hide h0
    have BL := Rblanks_any (w.heap.size + 2) s 0 0 0
    rw [List.drop_zero, Nat.zero_add] at BL
    obtain ⟨b, hb⟩ : ∃ b, blN s.data.toList = b := ⟨_, rfl⟩
    have hbs : b ≤ s.size := by have := blN_le s.data.toList; rw [len_data] at this; omega
    rw [hb] at BL
    replace BL := hide BL
    obtain ⟨X1, hX1⟩ : ∃ X, hdIn [91] (s.data.toList.drop b) = X := ⟨_, rfl⟩
    obtain ⟨X2, hX2⟩ : ∃ X, hdIn [40] (s.data.toList.drop b) = X := ⟨_, rfl⟩
    have HB := hide hb
    have HX1 := hide hX1
    have HX2 := hide hX2
    have Q0 := hide (Pn.start w s)
    generalize hP : paL s.data.toList = P at *
    have HP := hide hP
    clear h h0 hb hX1 hX2 hP
    obtain ⟨⟨z0, z1, z2, z3, z4, z5, z6, z7⟩, ⟨c1, c2, c3⟩, b0, b1, g0, g1⟩ := Q0.out.seen
    go_enter Tryz.func7, Tryz.ntmps7
    go_wp2_with fail
    generalize (((w.alloc (.cells #[.string ⟨#[]⟩, .slice none 0 0] 24)).alloc (.cells #[.int .i64 0, .int .i64 0] 27)).alloc (.cells #[.string s, .int .i64 0, .int .i64 0, .int .i64 0] 48)).alloc (.cells #[.string ⟨#[]⟩, .slice none 0 0] 24) = W0 at *
    refine (BL.out W0 Q0.out.rd hs (Nat.zero_le _)).mono ?_
    rintro r W1 ⟨rfl, t, d⟩
    have Q1 := hide (Q0.out.next t d)
    clear t d Q0 BL z0 z1 z2 z3 z4 z5 z6 z7 c1 c2 c3 b0 b1 g0 g1
    dsimp only
    obtain ⟨⟨z0, z1, z2, z3, z4, z5, z6, z7⟩, ⟨c1, c2, c3⟩, b0, b1, g0, g1⟩ := Q1.out.seen
    go_wp2_with fail
    refine (Ris_any (w.heap.size + 2) s b 0 0 91 W1 Q1.out.rd hs hbs).mono ?_
    rintro r W2 ⟨rfl, nd, hw⟩
    rw [HX1.out]
    have Q2 := hide (Q1.out.below (by rw [hw]; exact below_drewN _ _ nd) : Pn w s b 0 0 [] (.slice none 0 0) W2)
    clear hw Q1 z0 z1 z2 z3 z4 z5 z6 z7 c1 c2 c3 b0 b1 g0 g1
    dsimp only
    obtain ⟨⟨z0, z1, z2, z3, z4, z5, z6, z7⟩, ⟨c1, c2, c3⟩, b0, b1, g0, g1⟩ := Q2.out.seen
    cases X1 with
    | true =>
      have hbr : hdIn [91, 40] (s.data.toList.drop (blN s.data.toList)) = true := by rw [HB.out, hd_two, HX1.out]; simp
      have RA := Rranges_any (w.heap.size + 2) s b W2 Q2.out.rd hs hbs _ rfl
      have hbb : b + blN (s.data.toList.drop b) = b := by rw [← HB.out, blN_idem]; omega
      rw [hbb] at RA
      obtain ⟨hp1, hp2⟩ := pa_rng H0.out hbr
      rw [HB.out] at hp1 hp2
      generalize dL [] b (s.data.toList.drop b) = F at *
      have HP1 := hide hp1
      have HP2 := hide hp2
      replace RA := hide RA
      clear hp1 hp2 hbr hbb
      go_wp2_with fail
      refine RA.out.mono ?_
      rintro r W8 ⟨v, ms, q, rfl, hm, t, hq, d, hF⟩
      obtain ⟨ao, cv, rfl, _⟩ := id hm
      have Q8 := hide (Q2.out.next t d)
      have hl8 := Q2.out.lt
      have HM := hide hm
      have HF := hide hF
      clear t d hm hF Q2 RA z0 z1 z2 z3 z4 z5 z6 z7 c1 c2 c3 b0 b1 g0 g1
      dsimp only
      obtain ⟨⟨z0, z1, z2, z3, z4, z5, z6, z7⟩, ⟨c1, c2, c3⟩, b0, b1, g0, g1⟩ := Q8.out.seen
      have Q9 := hide (Q8.out.rows (.slice ao ms.length cv))
      have HM9 : Hid (MrsN (w.heap.size + 2) (W8.setCell ⟨w.heap.size + 3, 1, none⟩ (.slice ao ms.length cv)) (.slice ao ms.length cv) ms) := HM.out.keep (by omega) (fun b hb _ => Below.heap_setCell _ _ _ _ (by simp only; omega))
      by_cases hE : F.err = 0
      · have hPP := HP.out.symm.trans (HP2.out hE)
        have hms := HF.out hE
        rw [← hms] at hPP
        have HPP := hide hPP
        have hrp : rP F = 0 := rP_ok hE
        rw [hE] at c2
        rw [hrp] at c3
        clear hPP hms hrp hE
        go_wp2_with fail
        refine And.right (pn_end Q9.out [] ao ms.length cv 0 0 ms P HPP.out HM9.out _ ?_ ?_) <;> rfl
      · have hPP := HP.out.symm.trans (HP1.out hE)
        have HPP := hide hPP
        have hrp : rP F = (F.at' : Int) := rP_bad rfl hE rfl
        rw [hrp] at c3
        have hEb : (F.err == 0) = false := by simpa using hE
        have hEn : (F.err != 0) = true := by simpa using hE
        clear hPP hrp hE
        go_wp2_with fail
        go_region
        all_goals
          go_wp2_with fail
          first
            | (refine And.left (pn_end Q9.out [] none 0 0 F.err F.at' [] P HPP.out (MrsN.none _ _) _ ?_ ?_) <;> rfl)
            | (refine And.right (pn_end Q9.out [] none 0 0 F.err F.at' [] P HPP.out (MrsN.none _ _) _ ?_ ?_) <;> rfl)
    | false =>
      go_wp2_with fail
      refine (Ris_any (w.heap.size + 2) s b 0 0 40 W2 Q2.out.rd hs hbs).mono ?_
      rintro r W3 ⟨rfl, nd, hw⟩
      rw [HX2.out]
      have Q3 := hide (Q2.out.below (by rw [hw]; exact below_drewN _ _ nd) : Pn w s b 0 0 [] (.slice none 0 0) W3)
      clear hw Q2 z0 z1 z2 z3 z4 z5 z6 z7 c1 c2 c3 b0 b1 g0 g1
      dsimp only
      obtain ⟨⟨z0, z1, z2, z3, z4, z5, z6, z7⟩, ⟨c1, c2, c3⟩, b0, b1, g0, g1⟩ := Q3.out.seen
      cases X2 with
      | true =>
        have hbr : hdIn [91, 40] (s.data.toList.drop (blN s.data.toList)) = true := by rw [HB.out, hd_two, HX1.out, HX2.out]; simp
        have RA := Rranges_any (w.heap.size + 2) s b W3 Q3.out.rd hs hbs _ rfl
        have hbb : b + blN (s.data.toList.drop b) = b := by rw [← HB.out, blN_idem]; omega
        rw [hbb] at RA
        obtain ⟨hp1, hp2⟩ := pa_rng H0.out hbr
        rw [HB.out] at hp1 hp2
        generalize dL [] b (s.data.toList.drop b) = F at *
        have HP1 := hide hp1
        have HP2 := hide hp2
        replace RA := hide RA
        clear hp1 hp2 hbr hbb
        go_wp2_with fail
        refine RA.out.mono ?_
        rintro r W8 ⟨v, ms, q, rfl, hm, t, hq, d, hF⟩
        obtain ⟨ao, cv, rfl, _⟩ := id hm
        have Q8 := hide (Q3.out.next t d)
        have hl8 := Q3.out.lt
        have HM := hide hm
        have HF := hide hF
        clear t d hm hF Q3 RA z0 z1 z2 z3 z4 z5 z6 z7 c1 c2 c3 b0 b1 g0 g1
        dsimp only
        obtain ⟨⟨z0, z1, z2, z3, z4, z5, z6, z7⟩, ⟨c1, c2, c3⟩, b0, b1, g0, g1⟩ := Q8.out.seen
        have Q9 := hide (Q8.out.rows (.slice ao ms.length cv))
        have HM9 : Hid (MrsN (w.heap.size + 2) (W8.setCell ⟨w.heap.size + 3, 1, none⟩ (.slice ao ms.length cv)) (.slice ao ms.length cv) ms) := HM.out.keep (by omega) (fun b hb _ => Below.heap_setCell _ _ _ _ (by simp only; omega))
        by_cases hE : F.err = 0
        · have hPP := HP.out.symm.trans (HP2.out hE)
          have hms := HF.out hE
          rw [← hms] at hPP
          have HPP := hide hPP
          have hrp : rP F = 0 := rP_ok hE
          rw [hE] at c2
          rw [hrp] at c3
          clear hPP hms hrp hE
          go_wp2_with fail
          refine And.right (pn_end Q9.out [] ao ms.length cv 0 0 ms P HPP.out HM9.out _ ?_ ?_) <;> rfl
        · have hPP := HP.out.symm.trans (HP1.out hE)
          have HPP := hide hPP
          have hrp : rP F = (F.at' : Int) := rP_bad rfl hE rfl
          rw [hrp] at c3
          have hEb : (F.err == 0) = false := by simpa using hE
          have hEn : (F.err != 0) = true := by simpa using hE
          clear hPP hrp hE
          go_wp2_with fail
          go_region
          all_goals
            go_wp2_with fail
            first
              | (refine And.left (pn_end Q9.out [] none 0 0 F.err F.at' [] P HPP.out (MrsN.none _ _) _ ?_ ?_) <;> rfl)
              | (refine And.right (pn_end Q9.out [] none 0 0 F.err F.at' [] P HPP.out (MrsN.none _ _) _ ?_ ?_) <;> rfl)
      | false =>
        have hbr : hdIn [91, 40] (s.data.toList.drop (blN s.data.toList)) = false := by rw [HB.out, hd_two, HX1.out, HX2.out]; rfl
        have RV := Rversion_any (w.heap.size + 2) s b 0 0 W3 Q3.out.rd hs hbs
        have hq : b + vK (s.data.toList.drop b) = vK s.data.toList := by rw [← HB.out]; exact vK_idem _
        have hb2 : b + blN (s.data.toList.drop b) = b := by rw [← HB.out, blN_idem]; omega
        have hv2 : verAt (s.data.toList.drop b) = verAt s.data.toList := by rw [← HB.out]; exact verAt_idem _
        have hbd : vBad (s.data.toList.drop b) = vBad s.data.toList := by rw [← HB.out]; exact vBad_idem _
        rw [hq, hb2, hv2, hbd] at RV
        have PB := hide (fun h => HP.out.symm.trans (pa_soft_bad H0.out hbr h))
        have PM := fun h1 h2 => HP.out.symm.trans (pa_soft_mis H0.out hbr h1 h2)
        have PO := fun h1 h2 h3 => HP.out.symm.trans (pa_soft_ok H0.out hbr h1 h2 h3)
        have hqs := vK_le s.data.toList
        rw [len_data] at hqs PM PO
        replace PM := hide PM
        replace PO := hide PO
        rw [HB.out] at PB
        have hne := empty_at (verAt s.data.toList)
        have HNE : Hid (verAt s.data.toList = [] ↔ decide (verAt s.data.toList ≠ []) = false) := by show _ ↔ _; simp
        have HVB : Hid (vBad s.data.toList = true → decide (verAt s.data.toList ≠ []) = true) := fun h => by unfold vBad at h; simp only [Bool.and_eq_true] at h; exact h.1
        generalize vK s.data.toList = q at *
        generalize verAt s.data.toList = V at *
        generalize vBad s.data.toList = bad at *
        generalize decide (V ≠ []) = T at *
        replace RV := hide RV
        clear hq hb2 hv2 hbd hbr
        go_wp2_with fail
        refine RV.out.mono ?_
        rintro r W4 ⟨rfl, t, d⟩
        have Q4 := hide (Q3.out.next t d)
        clear t d Q3 RV z0 z1 z2 z3 z4 z5 z6 z7 c1 c2 c3 b0 b1 g0 g1
        dsimp only
        cases bad with
        | true =>
          have hT := HVB.out rfl
          subst hT
          have HPP := hide (PB.out rfl)
          replace Q4 : Hid (Pn w s q 19 (b : Int) [] (.slice none 0 0) W4) := Q4
          obtain ⟨⟨z0, z1, z2, z3, z4, z5, z6, z7⟩, ⟨c1, c2, c3⟩, b0, b1, g0, g1⟩ := Q4.out.seen
          by_cases hlt : q < s.size
          · have hlt' : (q : Int) < (s.size : Int) := by omega
            go_wp2_with fail
            refine (Rhere_any (w.heap.size + 2) s q 19 (b : Int) W4 Q4.out.rd hqs).mono ?_
            rintro r W5 ⟨rfl, t, d⟩
            replace d : DrAt W5 (w.heap.size + 2) s q 19 (b : Int) := d
            have Q5 := hide (Q4.out.next t d)
            clear t d Q4 z0 z1 z2 z3 z4 z5 z6 z7 c1 c2 c3 b0 b1 g0 g1
            dsimp only
            obtain ⟨⟨z0, z1, z2, z3, z4, z5, z6, z7⟩, ⟨c1, c2, c3⟩, b0, b1, g0, g1⟩ := Q5.out.seen
            have Q6 := hide (Q5.out.soft V)
            go_wp2_with fail
            go_region
            all_goals
              go_wp2_with fail
              first
                | (refine And.left (pn_end Q6.out [] none 0 0 19 b [] P HPP.out (MrsN.none _ _) _ ?_ ?_) <;> rfl)
                | (refine And.right (pn_end Q6.out [] none 0 0 19 b [] P HPP.out (MrsN.none _ _) _ ?_ ?_) <;> rfl)
          · have hlt' : ¬ (q : Int) < (s.size : Int) := by omega
            have Q6 := hide (Q4.out.soft V)
            go_wp2_with fail
            go_region
            all_goals
              go_wp2_with fail
              first
                | (refine And.left (pn_end Q6.out [] none 0 0 19 b [] P HPP.out (MrsN.none _ _) _ ?_ ?_) <;> rfl)
                | (refine And.right (pn_end Q6.out [] none 0 0 19 b [] P HPP.out (MrsN.none _ _) _ ?_ ?_) <;> rfl)
        | false =>
          replace Q4 : Hid (Pn w s q 0 0 [] (.slice none 0 0) W4) := Q4
          obtain ⟨⟨z0, z1, z2, z3, z4, z5, z6, z7⟩, ⟨c1, c2, c3⟩, b0, b1, g0, g1⟩ := Q4.out.seen
          by_cases hmis : V = [] ∨ q < s.size
          · have HPP := hide (PM.out rfl hmis)
            have hmn := misR_ne (s.data.toList.drop q)
            have hEb : (misR (s.data.toList.drop q) == 0) = false := by simpa using hmn
            have hEn : (misR (s.data.toList.drop q) != 0) = true := by simpa using hmn
            have HR := hide (Rhere_any (w.heap.size + 2) s q 0 0 W4 Q4.out.rd hqs)
            have hfe : fe 0 (misR (s.data.toList.drop q)) = misR (s.data.toList.drop q) := rfl
            rw [hfe] at HR
            clear hmn hfe
            generalize misR (s.data.toList.drop q) = mi at *
            have hgo : T = false ∨ (T = true ∧ q < s.size) := by
              cases T with
              | false => exact .inl rfl
              | true =>
                rcases hmis with h | h
                · exact absurd (HNE.out.1 h) (by simp)
                · exact .inr ⟨rfl, h⟩
            clear hmis
            rcases hgo with rfl | ⟨rfl, hlt⟩
            · skip
              go_wp2_with fail
              refine HR.out.mono ?_
              rintro r W5 ⟨rfl, t, d⟩
              replace d : DrAt W5 (w.heap.size + 2) s q mi (q : Int) := d
              have Q5 := hide (Q4.out.next t d)
              clear t d Q4 HR z0 z1 z2 z3 z4 z5 z6 z7 c1 c2 c3 b0 b1 g0 g1
              dsimp only
              obtain ⟨⟨z0, z1, z2, z3, z4, z5, z6, z7⟩, ⟨c1, c2, c3⟩, b0, b1, g0, g1⟩ := Q5.out.seen
              have Q6 := hide (Q5.out.soft V)
              go_wp2_with fail
              go_region
              all_goals
                go_wp2_with fail
                first
                  | (refine And.left (pn_end Q6.out [] none 0 0 mi q [] P HPP.out (MrsN.none _ _) _ ?_ ?_) <;> rfl)
                  | (refine And.right (pn_end Q6.out [] none 0 0 mi q [] P HPP.out (MrsN.none _ _) _ ?_ ?_) <;> rfl)
            · have hlt' : (q : Int) < (s.size : Int) := by omega
              go_wp2_with fail
              refine HR.out.mono ?_
              rintro r W5 ⟨rfl, t, d⟩
              replace d : DrAt W5 (w.heap.size + 2) s q mi (q : Int) := d
              have Q5 := hide (Q4.out.next t d)
              clear t d Q4 HR z0 z1 z2 z3 z4 z5 z6 z7 c1 c2 c3 b0 b1 g0 g1
              dsimp only
              obtain ⟨⟨z0, z1, z2, z3, z4, z5, z6, z7⟩, ⟨c1, c2, c3⟩, b0, b1, g0, g1⟩ := Q5.out.seen
              have Q6 := hide (Q5.out.soft V)
              go_wp2_with fail
              go_region
              all_goals
                go_wp2_with fail
                first
                  | (refine And.left (pn_end Q6.out [] none 0 0 mi q [] P HPP.out (MrsN.none _ _) _ ?_ ?_) <;> rfl)
                  | (refine And.right (pn_end Q6.out [] none 0 0 mi q [] P HPP.out (MrsN.none _ _) _ ?_ ?_) <;> rfl)
          · have hV : V ≠ [] := fun h => hmis (.inl h)
            have hq9 : q = s.size := by omega
            have HPP := hide (PO.out rfl hV hq9)
            have hT : T = true := by
              cases T with
              | true => rfl
              | false => exact absurd (HNE.out.2 rfl) hV
            have hlt' : ¬ (q : Int) < (s.size : Int) := by omega
            subst hT
            clear hmis hV hq9
            have Q6 := hide (Q4.out.soft V)
            go_wp2_with fail
            refine And.right (pn_end Q6.out V none 0 0 0 0 [] P HPP.out (MrsN.none _ _) _ ?_ ?_) <;> rfl

end Go.Proofs.YtpedljmpobhimaaGreatDoor
