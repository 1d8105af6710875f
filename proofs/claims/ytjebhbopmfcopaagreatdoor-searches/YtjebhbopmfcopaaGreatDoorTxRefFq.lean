/-
  THE WALK of the document's own Fastq. Own text of the verifier.
-/
import Derived.Test.YtjebhbopmfcopaaGreatDoorTxRefFa
import Derived.Test.YtjebhbopmfcopaaGreatDoorTxFq
import Derived.Deep.QuietTactic
import Derived.BigQuiet
namespace Go.Proofs.YtjebhbopmfcopaaGreatDoor
open Go.RowKit

theorem u8_64 {c : UInt8} (h : c = 64) : ((c.toNat : Int) != 64) = false := by rw [h]; rfl
theorem u8_n64 {c : UInt8} (h : c ≠ 64) : ((c.toNat : Int) != 64) = true := (u8_cmp 64 (by omega)).2 h
theorem u8_43 {c : UInt8} (h : c = 43) : ((c.toNat : Int) != 43) = false := by rw [h]; rfl
theorem u8_n43 {c : UInt8} (h : c ≠ 43) : ((c.toNat : Int) != 43) = true := (u8_cmp 43 (by omega)).2 h

theorem ix_str (s : ByteArray) (k : Nat) (h : k < s.size) (x : Int) (hx : x = (k : Int)) (wy : World) : (Instr.index 9 (.string s) (.int .i64 x)).run Tryz.prog wy = .ok (.int .u8 (s[k].toNat : Int)) wy := by
  subst hx
  have h0 : (0 : Int) ≤ (k : Int) := by omega
  have h1 : (k : Int) < (s.size : Int) := by omega
  go_simp

theorem wrap_small (x : Int) (h0 : 0 ≤ x) (h1 : x ≤ 1000000000000000) : IntKind.i64.wrap x = x := by
  simp [IntKind.wrap, IntKind.bits, IntKind.signed]
  omega

set_option maxRecDepth 100000 in
set_option maxHeartbeats 8000000 in
theorem refFastq_any (s : ByteArray) (w : World) (hs : s.size ≤ 140737488351232) :
    Calls Tryz.prog 96 #[.string s] w fun e w' => Reads w 56 (Tx.fastq s) e w' := by
  obtain ⟨R, hR⟩ : ∃ R, R = Tx.fastq s := ⟨_, rfl⟩
  rw [← hR]
  have HR : Hid _ := hR
  clear hR
  go_enter Tryz.func96, Tryz.ntmps96
  go_wp2
  go_loopw [5, 6] (fun v at_ wr => ∃ (out : List Pr) (p f : Nat), at_ = .int .i64 (p : Int) ∧ out.length ≤ 256 ∧ p ≤ s.size ∧ s.size ≤ f + p ∧ Hid (R = Tx.fq s (f + 1) p out) ∧ wr.ownsRow w.heap.size 56 2 v out.length (Prs out) ∧ Below w.heap.size w wr)
    (fun _ at_ _ => s.size - (intOf at_).toNat)
  case atStart => exact ⟨[], 0, s.size, rfl, by simp, by omega, by omega, HR, World.ownsRow_nil _ _ _ _, Below.refl _ _⟩
  case round =>
    clear HR
    obtain ⟨out, p, f, rfl, hol, hps, hfp, HR, hown, hbel⟩ := hrel
    have hsz := hbel.size
    obtain ⟨ao, cp, hv⟩ := own_form hown
    subst hv
    by_cases hlt : p < s.size
    · have hlt' : (p : Int) < (s.size : Int) := by omega
      by_cases h64 : Tx.bt s p = 64
      · have h64' := u8_64 ((Tx.bt_in hlt).symm.trans h64)
        by_cases h256 : out.length = 256
        · have HB : Hid _ := HR.out.trans (Tx.fq_many s f p out hlt h64 h256)
          clear h64 HR
          go_wp2
          go_ret3
          exact reads_bad HB.out rfl hbel
        · have h256' : (out.length : Int) < 256 := by omega
          go_wp2_with fail
          rw [show (p : Int) + 1 = ((p + 1 : Nat) : Int) from by omega]
          refine (nameAt_any s (p + 1) _ hs (by omega)).mono ?_
          rintro e w' ⟨hna, hw⟩
          subst w'
          rcases hna with ⟨he, rfl⟩ | ⟨he, rfl⟩
          · have HB : Hid _ := HR.out.trans (Tx.fq_name s f p out hlt h64 h256 he)
            clear h64 HR he
            go_wp2
            go_ret3
            exact reads_bad HB.out rfl hbel
          · obtain ⟨hen1, hen2⟩ := Tx.nEnd_lt he
            have HG : Hid _ := HR.out.trans (Tx.fq_go s f p out hlt h64 h256 he)
            clear h64 HR he
            generalize hnm : Tx.piece s (p + 1) (Tx.nEnd s (p + 1)) = nm at *
            clear hnm
            generalize Tx.nEnd s (p + 1) = en at *
            go_wp2_with fail
            rw [show (en : Int) + 1 = ((en + 1 : Nat) : Int) from by omega]
            refine (lettersAt_any s (en + 1) 128 _ hs (by omega) (by omega)).mono ?_
            rintro e w2 ⟨hla, hb2⟩
            have hb02 := hbel.trans (hb2.mono hsz)
            have hO2 := own_below hown hb2
            have hsz2 := hb02.size
            clear hown hb2 hbel
            rcases hla with ⟨hbad, rfl⟩ | ⟨hgood, rfl⟩
            · have HB : Hid _ := HG.out.trans (Tx.tail_bad s _ _ hbad)
              clear HG hbad
              go_wp2_with (go_at_call 154; refine (wrong_any s _ _ _ _).mono ?_; rintro e w' ⟨rfl, hw⟩; subst w')
              go_ret3
              exact reads_bad HB.out rfl hb02
            · obtain ⟨htg, h10, hpos, hsi⟩ := Tx.tail_good s (en + 1) (fun q x => Tx.fq s f q (out ++ [(nm, x)])) hgood
              have HP : Hid _ := HG.out.trans htg
              have hcl := Tx.caps_length s (Tx.rlen s (en + 1) 128) (en + 1)
              have hcle := Tx.rlen_le s 128 (en + 1)
              clear HG htg hgood
              generalize Tx.rlen s (en + 1) 128 = c at *
              generalize Tx.caps s (en + 1) c = cs at *
              obtain ⟨n1, hn1⟩ : ∃ n1, n1 = en + 1 + c + 1 := ⟨_, rfl⟩
              have HP1 : Hid (Tx.bt s n1 ≠ 43 → R = Tx.bad 5 n1) := fun h => by rw [hn1] at h ⊢; exact HP.out.trans (Tx.plus_bad1 s _ _ h10 h)
              have HP2 : Hid (Tx.bt s n1 = 43 → Tx.bt s (n1 + 1) ≠ 10 → R = Tx.bad 5 (n1 + 1)) := fun h h2 => by rw [hn1] at h h2 ⊢; exact HP.out.trans (Tx.plus_bad2 s _ _ h10 h h2)
              have HP3 : Hid (Tx.bt s n1 = 43 → Tx.bt s (n1 + 1) = 10 → R = Tx.fqQual s (n1 + 2) c (fun q => Tx.fq s f q (out ++ [(nm, cs)]))) := fun h h2 => by rw [hn1] at h h2 ⊢; exact HP.out.trans (Tx.plus_good s _ _ h10 h h2)
              rw [show ((en + 1 + c : Nat) : Int) + 1 = (n1 : Int) from by omega]
              have hpi : p + 3 ≤ n1 := by omega
              have hn1s : n1 ≤ s.size := by omega
              clear hn1 HP h10 hsi
              have hwr : IntKind.i64.wrap ((n1 : Int) + 1) = (n1 : Int) + 1 := wrap_small _ (by omega) (by omega)
              have k0 : ∀ wy, (Instr.index 9 (.string ⟨#[43, 10]⟩) (.int .i64 0)).run Tryz.prog wy = .ok (.int .u8 43) wy := fun _ => by kernel_rfl
              have k1 : ∀ wy, (Instr.index 9 (.string ⟨#[43, 10]⟩) (.int .i64 1)).run Tryz.prog wy = .ok (.int .u8 10) wy := fun _ => by kernel_rfl
              by_cases hA : Tx.bt s n1 = 43
              · have hA1 : n1 < s.size := Tx.bt_lt (by rw [hA]; decide)
                have hA2 := u8_43 ((Tx.bt_in hA1).symm.trans hA)
                have hd1 : decide ((s.size : Int) ≤ (n1 : Int)) = false := by simp; omega
                have hd1n : decide (s.size ≤ n1) = false := by simp; omega
                have hd2 : (n1 : Int) < (s.size : Int) := by omega
                by_cases hB : Tx.bt s (n1 + 1) = 10
                · have hB1 : n1 + 1 < s.size := Tx.bt_lt (by rw [hB]; decide)
                  have hB2 := u8_is10 ((Tx.bt_in hB1).symm.trans hB)
                  have HQ : Hid _ := HP3.out hA hB
                  have hd3 : decide ((s.size : Int) ≤ (n1 : Int) + 1) = false := by simp; omega
                  have hd4 : (n1 : Int) + 1 < (s.size : Int) := by omega
                  have hix := ix_str s (n1 + 1) hB1 ((n1 : Int) + 1) (by omega)
                  clear HP1 HP2 HP3 hA hB
                  go_wp2
                  refine wp_loop_rounds 3 ?_
                  rw [rounds_succ]
                  go_wp2_with fail
                  go_quiet (fail)
                  have hba := below_drewN hb02 nq
                  have hOa : (w2.drewN nq).ownsRow w.heap.size 56 2 (.slice ao out.length cp) out.length (Prs out) := own_below hO2 (below_drewN (Below.refl _ _) nq)
                  generalize w2.drewN nq = wa at *
                  go_wp2
                  rw [rounds_succ]
                  go_wp2_with fail
                  go_quiet (fail)
                  have hbb := below_drewN hba nq
                  have hOb : (wa.drewN nq).ownsRow w.heap.size 56 2 (.slice ao out.length cp) out.length (Prs out) := own_below hOa (below_drewN (Below.refl _ _) nq)
                  generalize wa.drewN nq = wb at *
                  go_wp2
                  rw [rounds_succ]
                  go_wp2
                  obtain ⟨j, hj⟩ : ∃ j, j = n1 + 2 := ⟨_, rfl⟩
                  rw [show (n1 : Int) + 2 = (j : Int) from by omega]
                  have HQ2 : Hid (R = Tx.fqQual s j c (fun q => Tx.fq s f q (out ++ [(nm, cs)]))) := by rw [hj]; exact HQ.out
                  have hjs : j ≤ s.size := by omega
                  have hpj : p < j := by omega
                  have HO2 : Hid _ := hOb
                  clear HQ hj hix k0 k1 hd1 hd1n hd2 hd3 hd4 hwr hB2 hA2 hO2 hOa hOb hb02 hba
                  go_loop [13] (fun i => ∃ k : Nat, k ≤ c + 1 ∧ i = .int .i64 (k : Int) ∧ (k ≤ c → j + k ≤ s.size) ∧ Hid (k ≤ c → Tx.qlen s j c = k + Tx.qlen s (j + k) (c - k)) ∧ Hid (k = c + 1 → R = Tx.fq s f (j + c + 1) (out ++ [(nm, cs)]) ∧ j + c < s.size)) (fun i => c + 1 - (intOf i).toNat)
                  case atStart => exact ⟨0, by omega, rfl, fun _ => by omega, fun _ => by simp, fun h => by omega⟩
                  case round =>
                    obtain ⟨k, hk, rfl, hjk, HK, HE⟩ := hrel
                    by_cases hkc : k ≤ c
                    · have hjk2 := hjk hkc
                      have hql := HK.out hkc
                      clear hjk HK HE
                      have hkc' : (k : Int) ≤ (cs.length : Int) := by omega
                      by_cases hin : j + k < s.size
                      · have hin' : ¬ (s.size : Int) ≤ (j : Int) + (k : Int) := by omega
                        have hbt := Tx.bt_in hin
                        rcases Nat.lt_or_ge k c with hlt2 | hge2
                        · have hlt3 : (k : Int) < (cs.length : Int) := by omega
                          rw [Tx.qlen_step s j c k hlt2, hbt] at hql
                          cases hq : Tx.ql s[j + k] with
                          | true =>
                            rw [hq, if_pos rfl] at hql
                            have hr := of_decide_eq_true hq
                            obtain ⟨hr1, hr2⟩ := hr
                            have HN : Hid (Tx.qlen s j c = (k + 1) + Tx.qlen s (j + (k + 1)) (c - (k + 1))) := by show _ = _; omega
                            have hke : ((k : Int) == (cs.length : Int)) = false := by rw [beq_eq_false_iff_ne]; omega
                            clear hql hq hbt
                            go_wp2
                            go_round
                            case rel => exact ⟨k + 1, by omega, by go_num, fun _ => by omega, fun _ => HN.out, fun h => by omega⟩
                            case measure => simp [intOf]; omega
                          | false =>
                            rw [hq, if_neg (by simp)] at hql
                            have hr : (s[j + k].toNat : Int) < 33 ∨ 126 < (s[j + k].toNat : Int) := by have := of_decide_eq_false hq; omega
                            have HB : Hid (R = Tx.bad 6 (j + k)) := by show _ = _; rw [HQ2.out, Tx.fqQual, hql, if_pos (.inl (by omega))]; rfl
                            clear hql hq hbt HQ2
                            rcases hr with hr | hr
                            all_goals
                              go_wp2
                              go_ret3
                              exact reads_bad HB.out (by omega) hbb
                        · have hkc3 : k = c := by omega
                          have hlt3 : ¬ (k : Int) < (cs.length : Int) := by omega
                          have hke : ((k : Int) == (cs.length : Int)) = true := by rw [beq_iff_eq]; omega
                          have hqc : Tx.qlen s j c = c := by rw [hql, hkc3, Nat.sub_self, Tx.qlen]; omega
                          by_cases h10 : s[j + k] = 10
                          · have h10' := u8_is10 h10
                            have HN : Hid (R = Tx.fq s f (j + c + 1) (out ++ [(nm, cs)]) ∧ j + c < s.size) := ⟨by
                              rw [HQ2.out, Tx.fqQual, hqc, if_neg (by rw [← hkc3, hbt]; simp [h10])], by omega⟩
                            have hkc4 : c ≤ k := by omega
                            clear hql hqc hbt h10 HQ2 hkc3
                            go_wp2
                            go_round
                            case rel => exact ⟨k + 1, by omega, by go_num, fun _ => by omega, fun h => by omega, fun _ => HN.out⟩
                            case measure => simp [intOf]; omega
                          · have h10' := u8_ne10 h10
                            have HB : Hid (R = Tx.bad 6 (j + k)) := by show _ = _; rw [HQ2.out, Tx.fqQual, hqc, if_pos (.inr (by rw [← hkc3, hbt]; exact h10)), hkc3]
                            clear hql hqc hbt h10 HQ2 hkc3
                            go_wp2
                            go_ret3
                            exact reads_bad HB.out (by omega) hbb
                      · have hjs2 : j + k = s.size := by omega
                        have hin' : (s.size : Int) ≤ (j : Int) + (k : Int) := by omega
                        have hqk : Tx.qlen s j c = k := by
                          rw [hql]
                          rcases Nat.lt_or_ge k c with hlt2 | hge2
                          · rw [Tx.qlen_step s j c k hlt2, Tx.bt_out hin, Tx.ql_zero]; simp
                          · rw [show c - k = 0 by omega, Tx.qlen]; omega
                        have HB : Hid (R = Tx.bad 6 s.size) := by
                          show _ = _
                          rw [HQ2.out, Tx.fqQual, hqk, if_pos ?_, hjs2]
                          right
                          rw [Tx.bt_out hin]; decide
                        clear hql hqk HQ2 hjs2
                        go_wp2
                        go_ret3
                        exact reads_bad HB.out rfl hbb
                    · obtain ⟨hE1, hE2⟩ := HE.out (by omega)
                      have HE1 : Hid _ := hE1
                      have hkc' : ¬ (k : Int) ≤ (cs.length : Int) := by omega
                      clear hjk HK HE HQ2 hE1
                      go_wp2_with (at_builtin; refine app_pair rfl _ _ 88 rfl w.heap.size 56 Tryz.underlying88 Tryz.infoRead _ out _ _ (nm, cs) rfl rfl rfl rfl (by exact HO2.out) hbb (by have := hbb.size; omega) (by omega) ?_; intro v' w3 hown3 hbel3 hsz3)
                      go_roundw
                      case rel => exact ⟨out ++ [(nm, cs)], j + c + 1, f - 1, by go_num, by simp; omega, by omega, by omega, by rw [show f - 1 + 1 = f by omega]; exact HE1, hown3, hbel3⟩
                      case measure => simp [intOf]; omega
                · have HB : Hid _ := HP2.out hA hB
                  have hcase : ¬ n1 + 1 < s.size ∨ (∃ h : n1 + 1 < s.size, ((s[n1 + 1].toNat : Int) != 10) = true) := by
                    by_cases h : n1 + 1 < s.size
                    · exact .inr ⟨h, u8_ne10 (fun h2 => hB ((Tx.bt_in h).trans h2))⟩
                    · exact .inl h
                  clear HP1 HP2 HP3 hA hB
                  rcases hcase with h1 | ⟨h1, h2⟩
                  · have hd3 : decide ((s.size : Int) ≤ (n1 : Int) + 1) = true := by simp; omega
                    go_wp2
                    refine wp_loop_rounds 2 ?_
                    rw [rounds_succ]
                    go_wp2_with fail
                    go_quiet (fail)
                    go_wp2
                    rw [rounds_succ]
                    go_wp2_with fail
                    go_quiet (fail)
                    go_wp2
                    go_ret3
                    exact reads_bad HB.out (by omega) (below_drewN hb02 _)
                  · have hd3 : decide ((s.size : Int) ≤ (n1 : Int) + 1) = false := by simp; omega
                    have hd4 : (n1 : Int) + 1 < (s.size : Int) := by omega
                    have hix := ix_str s (n1 + 1) h1 ((n1 : Int) + 1) (by omega)
                    go_wp2
                    refine wp_loop_rounds 2 ?_
                    rw [rounds_succ]
                    go_wp2_with fail
                    go_quiet (fail)
                    go_wp2
                    rw [rounds_succ]
                    go_wp2_with fail
                    go_quiet (fail)
                    go_wp2
                    go_ret3
                    exact reads_bad HB.out (by omega) (below_drewN hb02 _)
              · have HB : Hid _ := HP1.out hA
                have hcase : ¬ n1 < s.size ∨ (∃ h : n1 < s.size, ((s[n1].toNat : Int) != 43) = true) := by
                  by_cases h : n1 < s.size
                  · exact .inr ⟨h, u8_n43 (fun h2 => hA ((Tx.bt_in h).trans h2))⟩
                  · exact .inl h
                clear HP1 HP2 HP3 hA
                rcases hcase with h1 | ⟨h1, h2⟩
                · have hd : decide (s.size ≤ n1) = true := by simp; omega
                  go_wp2
                  refine wp_loop_rounds 1 ?_
                  rw [rounds_succ]
                  go_wp2_with fail
                  go_quiet (fail)
                  go_wp2
                  go_ret3
                  exact reads_bad HB.out (by omega) (below_drewN hb02 _)
                · have hd : decide (s.size ≤ n1) = false := by simp; omega
                  have hd2 : (n1 : Int) < (s.size : Int) := by omega
                  go_wp2
                  refine wp_loop_rounds 1 ?_
                  rw [rounds_succ]
                  go_wp2_with fail
                  go_quiet (fail)
                  go_wp2
                  go_ret3
                  exact reads_bad HB.out (by omega) (below_drewN hb02 _)
      · have HB : Hid _ := HR.out.trans (Tx.fq_stop s f p out hlt h64)
        have h64' := u8_n64 (fun h => h64 ((Tx.bt_in hlt).trans h))
        clear h64 HR
        go_wp2
        go_ret3
        exact reads_bad HB.out rfl hbel
    · have HB : Hid _ := HR.out.trans (Tx.fq_end s f p out hlt)
      have hlt' : ¬ (p : Int) < (s.size : Int) := by omega
      clear HR
      go_wp2
      go_ret3
      rw [HB.out]
      exact ⟨_, rfl, hown, hbel, fun h => absurd rfl h⟩

end Go.Proofs.YtjebhbopmfcopaaGreatDoor
