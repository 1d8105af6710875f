/-
  THE WALKS: the byte at a place, where a name ends (the program's and the document's), letters of a line (the document's), a name among contigs. Own text of the verifier.
-/
import Derived.Test.YtjebhbopmfcopaaGreatDoorTxSmall
namespace Go.Proofs.YtjebhbopmfcopaaGreatDoor
open Go.RowKit

/-- block g holds the bytes of s from its head on -/
def Bs (w : World) (g : Nat) (s : ByteArray) : Prop := ∀ j (h : j < s.size), w.cell? ⟨g, j, none⟩ = some (.int .u8 (s[j].toNat : Int))

set_option maxRecDepth 100000 in
set_option maxHeartbeats 800000 in
theorem byteAt_any (s : ByteArray) (g cp p : Nat) (w : World) (hb : Bs w g s) :
    Calls Tryz.prog 63 #[.slice (some ⟨g, 0, none⟩) s.size cp, .int .i64 (p : Int)] w fun e w' => e = .returned (.int .u8 ((Tx.bt s p).toNat : Int)) ∧ w' = w := by
  by_cases hp : p < s.size
  · have hc := hb p hp
    have HB : Hid _ := Tx.bt_in hp
    clear hb
    have hp' : (p : Int) < (s.size : Int) := by omega
    go_enter Tryz.func63, Tryz.ntmps63
    go_wp2
    go_ret
    exact ⟨ret_int (by rw [HB.out]), rfl⟩
  · have HB : Hid _ := Tx.bt_out hp
    clear hb
    have hp' : ¬ (p : Int) < (s.size : Int) := by omega
    go_enter Tryz.func63, Tryz.ntmps63
    go_wp2
    go_ret
    exact ⟨ret_int (by rw [HB.out]; rfl), rfl⟩

theorem nlen_step (s : ByteArray) (p j : Nat) (hj : j < 32) : Tx.nlen s (p + j) (32 - j) = if Tx.nb (Tx.bt s (p + j)) then Tx.nlen s (p + (j + 1)) (32 - (j + 1)) + 1 else 0 := by
  obtain ⟨f, hf⟩ : ∃ f, 32 - j = f + 1 := ⟨32 - j - 1, by omega⟩
  rw [hf, Tx.nlen, show 32 - (j + 1) = f by omega, show p + (j + 1) = p + j + 1 by omega]

set_option maxRecDepth 100000 in
set_option maxHeartbeats 800000 in
theorem nameEnd_any (s : ByteArray) (g cp p : Nat) (w : World) (hb : Bs w g s) (hs : s.size ≤ 140737488351232) (hps : p ≤ s.size) :
    Calls Tryz.prog 64 #[.slice (some ⟨g, 0, none⟩) s.size cp, .int .i64 (p : Int)] w fun e w' => e = .returned (.int .i64 (Tx.nEnd s p : Int)) ∧ w' = w := by
  have HB : Hid _ := hb
  clear hb
  go_enter Tryz.func64, Tryz.ntmps64
  go_wp2
  go_loop [5] (fun i => ∃ j : Nat, j ≤ 32 ∧ i = .int .i64 ((p + j : Nat) : Int) ∧ Hid (Tx.nlen s p 32 = j + Tx.nlen s (p + j) (32 - j))) (fun i => p + 32 - (intOf i).toNat)
  case atStart => exact ⟨0, by omega, rfl, by show _ = _; simp⟩
  case round =>
    obtain ⟨j, hj, rfl, HN⟩ := hrel
    by_cases h32 : j < 32
    · have hst := nlen_step s p j h32
      cases hnb : Tx.nb (Tx.bt s (p + j)) with
      | true =>
        rw [hnb, if_pos rfl] at hst
        have HN2 : Hid (Tx.nlen s p 32 = (j + 1) + Tx.nlen s (p + (j + 1)) (32 - (j + 1))) := by show _ = _; rw [HN.out, hst]; omega
        have HNB : Hid _ := hnb
        clear hst hnb HN
        go_wp2_with (first
          | (go_at_call 63; refine (byteAt_any s g cp (p + j) _ HB.out).mono ?_; rintro e w' ⟨rfl, hw⟩; subst w')
          | (go_at_call 119; refine (isNameByte_any _ _).mono ?_; rintro e w' ⟨rfl, hw⟩; subst w'; rw [HNB.out]))
        go_round
        case rel => exact ⟨j + 1, by omega, by go_num, HN2⟩
        case measure => simp [intOf]; omega
      | false =>
        rw [hnb, if_neg (by simp)] at hst
        have HF : Hid (Tx.nEnd s p = p + j) := by show _ = _; rw [Tx.nEnd, HN.out, hst]; omega
        have HNB : Hid _ := hnb
        clear hst hnb HN
        go_wp2_with (first
          | (go_at_call 63; refine (byteAt_any s g cp (p + j) _ HB.out).mono ?_; rintro e w' ⟨rfl, hw⟩; subst w')
          | (go_at_call 119; refine (isNameByte_any _ _).mono ?_; rintro e w' ⟨rfl, hw⟩; subst w'; rw [HNB.out]))
        go_ret
        exact ⟨ret_int (by rw [HF.out]; omega), rfl⟩
    · have hj32 : j = 32 := by omega
      subst hj32
      have HF : Hid (Tx.nEnd s p = p + 32) := by show _ = _; rw [Tx.nEnd, HN.out]; simp [Tx.nlen]
      clear HN
      go_wp2
      go_ret
      exact ⟨ret_int (by rw [HF.out]; omega), rfl⟩

theorem extract_piece (s : ByteArray) (p q : Nat) : s.extract p q = ⟨(Tx.piece s p q).toArray⟩ := by
  apply ByteArray.ext
  rw [ByteArray.data_extract]
  apply Array.toList_inj.1
  simp [Tx.piece, Array.toList_extract, List.take_drop]

theorem ret3 {a b : ByteArray} {x y x' y' : Int} (h1 : a = b) (h2 : x = x') (h3 : y = y') : Ending.returned (.tuple #[.string a, .int .i64 x, .int .i64 y]) = .returned (.tuple #[.string b, .int .i64 x', .int .i64 y']) := by rw [h1, h2, h3]

/-- the loop of the document's 'nameAt' -/
theorem nlen_out (s : ByteArray) (p j : Nat) (h : ¬ p + j < s.size) : Tx.nlen s (p + j) (32 - j) = 0 := by
  cases hf : 32 - j with
  | zero => rfl
  | succ f => rw [Tx.nlen, Tx.bt_out h, Tx.nb_zero]; rfl

set_option maxRecDepth 100000 in
set_option maxHeartbeats 1600000 in
theorem nameAt_any (s : ByteArray) (p : Nat) (w : World) (hs : s.size ≤ 140737488351232) (hps : p ≤ s.size) :
    Calls Tryz.prog 152 #[.string s, .int .i64 (p : Int)] w fun e w' =>
      (((Tx.nEnd s p = p ∨ Tx.bt s (Tx.nEnd s p) ≠ 10) ∧ e = .returned (.tuple #[.string ⟨#[]⟩, .int .i64 (-1), .int .i64 (Tx.nEnd s p : Int)])) ∨
       (¬ (Tx.nEnd s p = p ∨ Tx.bt s (Tx.nEnd s p) ≠ 10) ∧ e = .returned (.tuple #[.string ⟨(Tx.piece s p (Tx.nEnd s p)).toArray⟩, .int .i64 ((Tx.nEnd s p : Int) + 1), .int .i64 0]))) ∧ w' = w := by
  have HE : Hid _ := Tx.nlen_size s 32 p hps
  go_enter Tryz.func152, Tryz.ntmps152
  go_wp2
  go_loop [7] (fun i => ∃ j : Nat, j ≤ 32 ∧ p + j ≤ s.size ∧ i = .int .i64 ((p + j : Nat) : Int) ∧ Hid (Tx.nlen s p 32 = j + Tx.nlen s (p + j) (32 - j))) (fun i => p + 32 - (intOf i).toNat)
  case atStart => exact ⟨0, by omega, by omega, rfl, by show _ = _; simp⟩
  case round =>
    obtain ⟨j, hj, hpj, rfl, HN⟩ := hrel
    by_cases hgo : p + j < s.size ∧ j < 32 ∧ Tx.nb (Tx.bt s (p + j)) = true
    · obtain ⟨hlt, h32, hnb⟩ := hgo
      have hst := nlen_step s p j h32
      rw [hnb, if_pos rfl] at hst
      have HN2 : Hid (Tx.nlen s p 32 = (j + 1) + Tx.nlen s (p + (j + 1)) (32 - (j + 1))) := by show _ = _; rw [HN.out, hst]; omega
      rw [Tx.bt_in hlt] at hnb
      have HNB : Hid _ := hnb
      clear hst hnb HN
      go_wp2_with (go_at_call 193; refine (inName_any _ _).mono ?_; rintro e w' ⟨rfl, hw⟩; subst w'; rw [HNB.out])
      go_round
      case rel => exact ⟨j + 1, by omega, by omega, by go_num, HN2⟩
      case measure => simp [intOf]; omega
    · have hF : Tx.nEnd s p = p + j := by
        rw [Tx.nEnd, HN.out]
        by_cases hlt : p + j < s.size
        · by_cases h32 : j < 32
          · rw [nlen_step s p j h32, if_neg (fun h => hgo ⟨hlt, h32, h⟩)]; omega
          · rw [show 32 - j = 0 by omega, Tx.nlen]; omega
        · rw [nlen_out s p j hlt]; omega
      have HF : Hid _ := hF
      clear HN
      by_cases hlt : p + j < s.size
      · have hb := Tx.bt_in hlt
        have HG : Hid (j < 32 → Tx.nb s[p + j] = false) := by
          intro h32
          cases hnb : Tx.nb s[p + j] with
          | false => rfl
          | true => exact absurd ⟨hlt, h32, by rw [hb]; exact hnb⟩ hgo
        clear hgo
        by_cases hj0 : j = 0
        · have HBAD : Hid (Tx.nEnd s p = p ∨ Tx.bt s (Tx.nEnd s p) ≠ 10) := .inl (by rw [hF]; omega)
          subst hj0
          have HNB : Hid (Tx.nb (s[p]'(by omega)) = false) := HG.out (by omega)
          have e1 : ((p : Int) == (p : Int)) = true := by simp
          clear hF hb HG
          go_wp2_with (go_at_call 193; refine (inName_any _ _).mono ?_; rintro e w' ⟨rfl, hw⟩; subst w'; rw [HNB.out])
          go_ret3
          exact ⟨.inl ⟨HBAD.out, ret3 rfl rfl (by rw [HF.out]; simp)⟩, rfl⟩
        · have e1 : ((p : Int) + (j : Int) == (p : Int)) = false := by rw [beq_eq_false_iff_ne]; omega
          cases h10 : ((s[p + j].toNat : Int) != 10) with
          | true =>
            have HBAD : Hid (Tx.nEnd s p = p ∨ Tx.bt s (Tx.nEnd s p) ≠ 10) := .inr (by
              rw [hF, hb]; intro h; rw [h] at h10; exact absurd h10 (by decide))
            clear hF hb
            by_cases h32 : j < 32
            · have HNB : Hid _ := HG.out h32
              clear HG
              go_wp2_with (go_at_call 193; refine (inName_any _ _).mono ?_; rintro e w' ⟨rfl, hw⟩; subst w'; rw [HNB.out])
              go_ret3
              exact ⟨.inl ⟨HBAD.out, ret3 rfl rfl (by rw [HF.out]; omega)⟩, rfl⟩
            · clear HG
              have hj32 : ¬ (p : Int) + (j : Int) < (p : Int) + 32 := by omega
              go_wp2
              go_ret3
              exact ⟨.inl ⟨HBAD.out, ret3 rfl rfl (by rw [HF.out]; omega)⟩, rfl⟩
          | false =>
            have HGOOD : Hid (¬ (Tx.nEnd s p = p ∨ Tx.bt s (Tx.nEnd s p) ≠ 10)) := by
              intro h
              rcases h with h | h
              · rw [hF] at h; omega
              · refine h ?_
                rw [hF, hb]
                have : (s[p + j].toNat : Int) = 10 := by simpa using h10
                exact (Lt.toNat_inj (n := 10) (by omega)).1 (by omega)
            have HX : Hid _ := extract_piece s p (p + j)
            clear hF hb
            by_cases h32 : j < 32
            · have HNB : Hid _ := HG.out h32
              clear HG
              go_wp2_with (go_at_call 193; refine (inName_any _ _).mono ?_; rintro e w' ⟨rfl, hw⟩; subst w'; rw [HNB.out])
              go_ret3
              exact ⟨.inr ⟨HGOOD.out, ret3 (by rw [HF.out]; exact HX.out) (by rw [HF.out]; omega) rfl⟩, rfl⟩
            · clear HG
              have hj32 : ¬ (p : Int) + (j : Int) < (p : Int) + 32 := by omega
              go_wp2
              go_ret3
              exact ⟨.inr ⟨HGOOD.out, ret3 (by rw [HF.out]; exact HX.out) (by rw [HF.out]; omega) rfl⟩, rfl⟩
      · have HBAD : Hid (Tx.nEnd s p = p ∨ Tx.bt s (Tx.nEnd s p) ≠ 10) := .inr (by rw [hF, Tx.bt_out hlt]; decide)
        clear hgo hF
        have hge : (s.size : Int) ≤ (p : Int) + (j : Int) := by omega
        cases e1 : ((p : Int) + (j : Int) == (p : Int))
        all_goals
          go_wp2
          go_ret3
          exact ⟨.inl ⟨HBAD.out, ret3 rfl rfl (by rw [HF.out]; omega)⟩, rfl⟩

theorem rlen_step (s : ByteArray) (p m j : Nat) (hj : j < m) : Tx.rlen s (p + j) (m - j) = if Tx.cap (Tx.bt s (p + j)) ≠ 0 then Tx.rlen s (p + (j + 1)) (m - (j + 1)) + 1 else 0 := by
  obtain ⟨f, hf⟩ : ∃ f, m - j = f + 1 := ⟨m - j - 1, by omega⟩
  rw [hf, Tx.rlen, show m - (j + 1) = f by omega, show p + (j + 1) = p + j + 1 by omega]
theorem rlen_out (s : ByteArray) (p m j : Nat) (h : ¬ p + j < s.size) : Tx.rlen s (p + j) (m - j) = 0 := by
  cases hf : m - j with
  | zero => rfl
  | succ f => rw [Tx.rlen, Tx.bt_out h, Tx.cap_zero]; rfl

theorem u8_ne0 {c : UInt8} (h : c ≠ 0) : ((c.toNat : Int) != 0) = true := by
  rw [bne_iff_ne]
  intro h2
  exact h ((Lt.toNat_inj (n := 0) (by omega)).1 (by omega))
theorem u8_is0 {c : UInt8} (h : c = 0) : ((c.toNat : Int) != 0) = false := by
  rw [h]; rfl
theorem u8_is10 {c : UInt8} (h : c = 10) : ((c.toNat : Int) != 10) = false := by
  rw [h]; rfl
theorem u8_ne10 {c : UInt8} (h : c ≠ 10) : ((c.toNat : Int) != 10) = true := by
  rw [bne_iff_ne]
  intro h2
  exact h ((Lt.toNat_inj (n := 10) (by omega)).1 (by omega))

set_option maxRecDepth 100000 in
set_option maxHeartbeats 1600000 in
theorem lettersAt_any (s : ByteArray) (p m : Nat) (w : World) (hs : s.size ≤ 140737488351232) (hps : p ≤ s.size) (hm : m ≤ 100000) :
    Calls Tryz.prog 153 #[.string s, .int .i64 (p : Int), .int .i64 (m : Int)] w fun e w' =>
      (((Tx.rlen s p m = 0 ∨ Tx.bt s (p + Tx.rlen s p m) ≠ 10) ∧ e = .returned (.tuple #[.string ⟨(Tx.caps s p (Tx.rlen s p m)).toArray⟩, .int .i64 (-1), .int .i64 ((p + Tx.rlen s p m : Nat) : Int)])) ∨
       (¬ (Tx.rlen s p m = 0 ∨ Tx.bt s (p + Tx.rlen s p m) ≠ 10) ∧ e = .returned (.tuple #[.string ⟨(Tx.caps s p (Tx.rlen s p m)).toArray⟩, .int .i64 (((p + Tx.rlen s p m : Nat) : Int) + 1), .int .i64 0]))) ∧ Below w.heap.size w w' := by
  go_enter Tryz.func153, Tryz.ntmps153
  go_wp2
  go_loopw [9, 10] (fun v i wr => ∃ j : Nat, j ≤ m ∧ p + j ≤ s.size ∧ i = .int .i64 ((p + j : Nat) : Int) ∧ Hid (Tx.rlen s p m = j + Tx.rlen s (p + j) (m - j)) ∧ wr.ownsRow w.heap.size 5 1 v j (Bys (Tx.caps s p j)) ∧ Below w.heap.size w wr) (fun _ i _ => p + m - (intOf i).toNat)
  case atStart => exact ⟨0, by omega, by omega, rfl, by show _ = _; simp, World.ownsRow_nil _ _ _ _, Below.refl _ _⟩
  case round =>
    obtain ⟨j, hj, hpj, rfl, HN, hown, hbel⟩ := hrel
    have hsz := hbel.size
    obtain ⟨ao, cp, hv⟩ := own_form hown
    subst hv
    by_cases hgo : p + j < s.size ∧ j < m ∧ Tx.cap (Tx.bt s (p + j)) ≠ 0
    · obtain ⟨hlt, hjm, hnb⟩ := hgo
      have hst := rlen_step s p m j hjm
      rw [if_pos hnb] at hst
      have HN2 : Hid (Tx.rlen s p m = (j + 1) + Tx.rlen s (p + (j + 1)) (m - (j + 1))) := by show _ = _; rw [HN.out, hst]; omega
      have HS : Hid _ := Tx.caps_snoc s j p
      have HL : Hid _ := Tx.caps_length s j p
      rw [Tx.bt_in hlt] at hnb
      have HBT : Hid _ := Tx.bt_in hlt
      have hne := u8_ne0 hnb
      clear hst hnb HN
      go_wp2_with (first
        | (go_at_call 155; refine (capital_tx _ _).mono ?_; rintro e w' ⟨rfl, hw⟩; subst w')
        | (at_builtin; refine app_byte rfl _ _ rfl w.heap.size _ (Tx.caps s p j) (Tx.cap s[p + j]) rfl rfl (by rw [HL.out]; exact hown) hbel (by omega) (by rw [HL.out]; omega) ?_; intro v' w1 hown1 hbel1 hsz1))
      rw [← HBT.out, ← HS.out, Tx.caps_length] at hown1
      go_roundw
      case rel => exact ⟨j + 1, by omega, by omega, by go_num, HN2, hown1, hbel1⟩
      case measure => simp [intOf]; omega
    · have hF : Tx.rlen s p m = j := by
        rw [HN.out]
        by_cases hlt : p + j < s.size
        · by_cases hjm : j < m
          · rw [rlen_step s p m j hjm, if_neg (fun h => hgo ⟨hlt, hjm, h⟩)]; omega
          · rw [show m - j = 0 by omega, Tx.rlen]; omega
        · rw [rlen_out s p m j hlt]; omega
      have hback := back_own hown
      have HO : Hid _ := hbel
      clear HN hown hbel
      have HF : Hid _ := hF
      clear hF
      by_cases hlt : p + j < s.size
      · have hb := Tx.bt_in hlt
        have HG : Hid (j < m → ((Tx.cap s[p + j]).toNat != 0 : Bool) = false) := by
          intro hjm
          by_cases h0 : Tx.cap s[p + j] = 0
          · rw [h0]; rfl
          · exact absurd ⟨hlt, hjm, by rw [hb]; exact h0⟩ hgo
        clear hgo
        by_cases hj0 : j = 0
        · subst hj0
          have e1 : ((p : Int) == (p : Int)) = true := by simp
          clear hb
          by_cases hjm : 0 < m
          · have h0 : (((Tx.cap (s[p]'(by omega))).toNat : Int) != 0) = false := by
              have := HG.out hjm
              have h2 : (Tx.cap (s[p]'(by omega))).toNat = 0 := by simpa using this
              rw [h2]; rfl
            clear HG
            go_wp2_with (go_at_call 155; refine (capital_tx _ _).mono ?_; rintro e w' ⟨rfl, hw⟩; subst w')
            go_ret3
            refine ⟨?_, HO.out⟩
            rw [HF.out]
            exact .inl ⟨(.inl rfl), ret3 rfl rfl rfl⟩
          · have hm0 : m = 0 := by omega
            subst hm0
            clear HG
            go_wp2
            go_ret3
            refine ⟨?_, HO.out⟩
            rw [HF.out]
            exact .inl ⟨(.inl rfl), ret3 rfl rfl rfl⟩
        · have e1 : ((p : Int) + (j : Int) == (p : Int)) = false := by rw [beq_eq_false_iff_ne]; omega
          by_cases h10 : s[p + j] = 10
          · have HGOOD : Hid (¬ (j = 0 ∨ Tx.bt s (p + j) ≠ 10)) := by
              intro h
              rcases h with h | h
              · exact hj0 h
              · exact h (by rw [hb]; exact h10)
            have h10' := u8_is10 h10
            clear hb h10
            by_cases hjm : j < m
            · have h0 : (((Tx.cap s[p + j]).toNat : Int) != 0) = false := by
                have := HG.out hjm
                have h2 : (Tx.cap s[p + j]).toNat = 0 := by simpa using this
                rw [h2]; rfl
              clear HG
              go_wp2_with (go_at_call 155; refine (capital_tx _ _).mono ?_; rintro e w' ⟨rfl, hw⟩; subst w')
              go_ret3
              refine ⟨?_, HO.out⟩
              rw [HF.out]
              exact .inr ⟨HGOOD.out, ret3 rfl (by omega) rfl⟩
            · have hjm' : ¬ (j : Int) < (m : Int) := by omega
              clear HG
              go_wp2
              go_ret3
              refine ⟨?_, HO.out⟩
              rw [HF.out]
              exact .inr ⟨HGOOD.out, ret3 rfl (by omega) rfl⟩
          · have HBAD : Hid (j = 0 ∨ Tx.bt s (p + j) ≠ 10) := .inr (by rw [hb]; exact h10)
            have h10' := u8_ne10 h10
            clear hb h10
            by_cases hjm : j < m
            · have h0 : (((Tx.cap s[p + j]).toNat : Int) != 0) = false := by
                have := HG.out hjm
                have h2 : (Tx.cap s[p + j]).toNat = 0 := by simpa using this
                rw [h2]; rfl
              clear HG
              go_wp2_with (go_at_call 155; refine (capital_tx _ _).mono ?_; rintro e w' ⟨rfl, hw⟩; subst w')
              go_ret3
              refine ⟨?_, HO.out⟩
              rw [HF.out]
              exact .inl ⟨HBAD.out, ret3 rfl rfl (by omega)⟩
            · have hjm' : ¬ (j : Int) < (m : Int) := by omega
              clear HG
              go_wp2
              go_ret3
              refine ⟨?_, HO.out⟩
              rw [HF.out]
              exact .inl ⟨HBAD.out, ret3 rfl rfl (by omega)⟩
      · have HBAD : Hid (j = 0 ∨ Tx.bt s (p + j) ≠ 10) := .inr (by rw [Tx.bt_out hlt]; decide)
        clear hgo
        have hge : (s.size : Int) ≤ (p : Int) + (j : Int) := by omega
        cases e1 : ((p : Int) + (j : Int) == (p : Int))
        all_goals
          go_wp2
          go_ret3
          refine ⟨?_, HO.out⟩
          rw [HF.out]
          exact .inl ⟨HBAD.out, ret3 rfl rfl (by omega)⟩

set_option maxRecDepth 100000 in
set_option maxHeartbeats 800000 in
theorem wrong_any (s : ByteArray) (p : Nat) (a b : Int) (w : World) :
    Calls Tryz.prog 154 #[.string s, .int .i64 (p : Int), .int .i64 a, .int .i64 b] w fun e w' => e = .returned (.int .i64 (Tx.wr s p a b)) ∧ w' = w := by
  by_cases hp : p < s.size
  · have hp' : (p : Int) < (s.size : Int) := by omega
    by_cases h0 : Tx.cap s[p] = 0
    · have HV : Hid (Tx.wr s p a b = a) := by show _ = _; rw [Tx.wr, Tx.bt_in hp, if_neg (by simp [h0])]
      have h1 := u8_is0 h0
      clear h0
      go_enter Tryz.func154, Tryz.ntmps154
      go_wp2_with (go_at_call 155; refine (capital_tx _ _).mono ?_; rintro e w' ⟨rfl, hw⟩; subst w')
      go_ret
      exact ⟨ret_int HV.out.symm, rfl⟩
    · have HV : Hid (Tx.wr s p a b = b) := by show _ = _; rw [Tx.wr, Tx.bt_in hp, if_pos h0]
      have h1 := u8_ne0 h0
      clear h0
      go_enter Tryz.func154, Tryz.ntmps154
      go_wp2_with (go_at_call 155; refine (capital_tx _ _).mono ?_; rintro e w' ⟨rfl, hw⟩; subst w')
      go_ret
      exact ⟨ret_int HV.out.symm, rfl⟩
  · have HV : Hid (Tx.wr s p a b = a) := by show _ = _; rw [Tx.wr, Tx.bt_out hp, if_neg (by simp [Tx.cap_zero])]
    have hp' : ¬ (p : Int) < (s.size : Int) := by omega
    go_enter Tryz.func154, Tryz.ntmps154
    go_wp2
    go_ret
    exact ⟨ret_int HV.out.symm, rfl⟩

end Go.Proofs.YtjebhbopmfcopaaGreatDoor
