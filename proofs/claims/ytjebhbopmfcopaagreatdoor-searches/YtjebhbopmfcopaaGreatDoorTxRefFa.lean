/-
  THE WALK of the document's own Fasta. Own text of the verifier.
-/
import Derived.Test.YtjebhbopmfcopaaGreatDoorTxPairs
import Derived.Test.YtjebhbopmfcopaaGreatDoorTxFa
import Derived.Test.YtjebhbopmfcopaaGreatDoorSource
namespace Go.Proofs.YtjebhbopmfcopaaGreatDoor
open Go.RowKit

theorem Tryz.infoContig : (Tryz.prog.info? 59).map (fun i => (i.zero, i.size, i.bytes)) = some (some (.agg #[.string ⟨#[]⟩, .string ⟨#[]⟩]), 2, 32) := by kernel_rfl
theorem Tryz.infoRead : (Tryz.prog.info? 56).map (fun i => (i.zero, i.size, i.bytes)) = some (some (.agg #[.string ⟨#[]⟩, .string ⟨#[]⟩]), 2, 32) := by kernel_rfl

theorem Prs_one (l : List Pr) : ∀ u ∈ Prs l, u.oneCell' = true := by
  intro u hu
  obtain ⟨o, ho, hu⟩ := List.mem_flatMap.1 hu
  simp only [prCells, List.mem_cons, List.not_mem_nil, or_false] at hu
  rcases hu with rfl | rfl <;> rfl

/-- 'out = append(out, T{name, letters})' -/
theorem app_pair {W w : World} {ops : Array Oper} {rest : List Oper} {o : Oper} {a : Act} {Q : Exit → Act → World → Prop} (hgd : o.guard = none) (s x : Operand) (t : TypeId)
    (ho : o.op = .call { callee := .builtin .append, args := #[s, x], argTypes := #[t, t] })
    (base : Nat) (e : TypeId) (ht : Tryz.prog.underlying t = some (.slice e)) (hinfo : (Tryz.prog.info? e).map (fun i => (i.zero, i.size, i.bytes)) = some (some (.agg #[.string ⟨#[]⟩, .string ⟨#[]⟩]), 2, 32))
    (v : Value) (l : List Pr) (nm lt : ByteArray) (y : Pr) (hs : a.eval s = v) (hx : a.eval x = .slice (some ⟨w.heap.size, 0, none⟩) 1 1) (hnm : nm = ⟨y.1.toArray⟩) (hlt : lt = ⟨y.2.toArray⟩)
    (hown : w.ownsRow base e 2 v l.length (Prs l)) (hbel : Below base W w) (hbase : base ≤ w.heap.size) (hlen : l.length + 1 ≤ 100000)
    (h : ∀ v' w', w'.ownsRow base e 2 v' (l ++ [y]).length (Prs (l ++ [y])) → Below base W w' → w.heap.size ≤ w'.heap.size → wpList Tryz.prog ops Q rest (a.put o.dst v') w') :
    wpList Tryz.prog ops Q (o :: rest) a (w.alloc (.cells #[.string nm, .string lt] e)) := by
  subst hnm hlt
  refine app_src hgd s x t ho base e _ 2 32 ht hinfo rfl (by decide) v l.length (Prs l) (.slice (some ⟨w.heap.size, 0, none⟩) 1 1) 1 (Prs [y]) hs hx (hown.alloc _) (.inr ⟨_, _, rfl, ?_⟩) (by simp [Prs, prCells]) (Prs_one _) (hbel.alloc hbase _) (by simp; omega) (by omega) (by decide) ?_
  · intro j u hj
    match j, hj with
    | 0, hj => simp [Prs, prCells] at hj; subst hj; simp [Addr.add]
    | 1, hj => simp [Prs, prCells] at hj; subst hj; simp [Addr.add]
  · intro v' w' h1 h2 h3 _
    refine h v' w' ?_ h2 (by simp at h3; omega)
    rw [Prs_append, List.length_append]
    exact h1

theorem u8_cmp {c : UInt8} (n : Nat) (hn : n < 256) : ((c.toNat : Int) != (n : Int)) = true ↔ c ≠ UInt8.ofNat n := by
  rw [bne_iff_ne]
  constructor
  · intro h h2
    exact h (by have := (Lt.toNat_inj hn).2 h2; omega)
  · intro h h2
    exact h ((Lt.toNat_inj hn).1 (by omega))
theorem u8_62 {c : UInt8} (h : c = 62) : ((c.toNat : Int) != 62) = false := by rw [h]; rfl
theorem u8_n62 {c : UInt8} (h : c ≠ 62) : ((c.toNat : Int) != 62) = true := (u8_cmp 62 (by omega)).2 h

theorem ans3 {v : Value} {x y : Int} {R : Tx.Ans} (h : R = ⟨R.out, x, y⟩) : Ending.returned (.tuple #[v, .int .i64 x, .int .i64 y]) = .returned (.tuple #[v, .int .i64 R.err, .int .i64 R.pos]) := by rw [h]

/-- what a reader's call ends with: the slice owned, the error, the place -/
def Reads (w : World) (e : TypeId) (R : Tx.Ans) (en : Ending) (w' : World) : Prop :=
  ∃ v, en = .returned (.tuple #[v, .int .i64 R.err, .int .i64 R.pos]) ∧ w'.ownsRow w.heap.size e 2 v R.out.length (Prs R.out) ∧ Below w.heap.size w w' ∧ (R.err ≠ 0 → v = .slice none 0 0)

theorem reads_bad {w w' : World} {e : TypeId} {R : Tx.Ans} {x : Int} {p : Nat} {y : Int} (h : R = Tx.bad x p) (hy : y = (p : Int)) (hb : Below w.heap.size w w') :
    Reads w e R (.returned (.tuple #[.slice none 0 0, .int .i64 x, .int .i64 y])) w' := by
  subst h hy
  exact ⟨_, rfl, World.ownsRow_nil _ _ _ _, hb, fun _ => rfl⟩

/-- what is owned stays owned while nothing old is written -/
theorem own_below {w w' : World} {base e size n : Nat} {v : Value} {xs : List Value} (h : w.ownsRow base e size v n xs) (hb : Below w.heap.size w w') : w'.ownsRow base e size v n xs := by
  refine ⟨h.1, ?_⟩
  rcases h.2 with h0 | ⟨g, cap, cur, rfl, h1, hg, h2⟩
  · exact .inl h0
  · exact .inr ⟨g, cap, cur, rfl, h1, by rw [hb.block g (Array.getElem?_eq_some_iff.1 hg).1]; exact hg, h2⟩

set_option maxRecDepth 100000 in
set_option maxHeartbeats 8000000 in
theorem refFasta_any (s : ByteArray) (w : World) (hs : s.size ≤ 140737488351232) :
    Calls Tryz.prog 93 #[.string s] w fun e w' => Reads w 59 (Tx.fasta s) e w' := by
  obtain ⟨R, hR⟩ : ∃ R, R = Tx.fasta s := ⟨_, rfl⟩
  rw [← hR]
  have HR : Hid _ := hR.trans (Tx.fasta_head s)
  clear hR
  go_enter Tryz.func93, Tryz.ntmps93
  go_wp2
  go_loopw [5, 6, 7] (fun v lf at_ wr => ∃ (out : List Pr) (p total f : Nat), at_ = .int .i64 (p : Int) ∧ lf = .int .i64 ((4096 - total : Nat) : Int) ∧ total ≤ 4096 ∧ out.length ≤ 16 ∧ p ≤ s.size ∧ s.size ≤ f + p ∧ Hid (R = Tx.head s f p out total) ∧ wr.ownsRow w.heap.size 59 2 v out.length (Prs out) ∧ Below w.heap.size w wr)
    (fun _ _ at_ _ => s.size + 1 - (intOf at_).toNat)
  case atStart => exact ⟨[], 0, 0, s.size + 1, rfl, rfl, by omega, by simp, by omega, by omega, HR, World.ownsRow_nil _ _ _ _, Below.refl _ _⟩
  case round =>
    clear HR
    obtain ⟨out, p, total, f, rfl, rfl, ht, hol, hps, hfp, HR, hown, hbel⟩ := hrel
    have hsz := hbel.size
    obtain ⟨ao, cp, hv⟩ := own_form hown
    subst hv
    by_cases hgo : p < s.size ∨ p = 0
    · by_cases h62 : Tx.bt s p = 62
      · have hlt : p < s.size := Tx.bt_lt (by rw [h62]; decide)
        have h62' := u8_62 ((Tx.bt_in hlt).symm.trans h62)
        have hlt' : (p : Int) < (s.size : Int) := by omega
        by_cases h16 : out.length = 16
        · have HB : Hid _ := HR.out.trans (Tx.mark_many s f p out total hgo h62 h16)
          clear hgo h62 HR
          go_wp2
          go_ret3
          exact reads_bad HB.out rfl hbel
        · have h16' : (out.length : Int) < 16 := by omega
          go_wp2_with fail
          rw [show (p : Int) + 1 = ((p + 1 : Nat) : Int) from by omega]
          refine (nameAt_any s (p + 1) _ hs (by omega)).mono ?_
          rintro e w' ⟨hna, hw⟩
          subst w'
          rcases hna with ⟨he, rfl⟩ | ⟨he, rfl⟩
          · have HB : Hid _ := HR.out.trans (Tx.mark_name s f p out total hgo h62 h16 he)
            clear hgo h62 HR he
            go_wp2
            go_ret3
            exact reads_bad HB.out rfl hbel
          · obtain ⟨hen1, hen2⟩ := Tx.nEnd_lt he
            have HG : Hid (out.any (fun x => x.1 == Tx.piece s (p + 1) (Tx.nEnd s (p + 1))) = false → R = Tx.faIn s f (Tx.nEnd s (p + 1) + 1) (Tx.nEnd s (p + 1) + 1) (Tx.piece s (p + 1) (Tx.nEnd s (p + 1))) [] out total) := fun ht => HR.out.trans (Tx.mark_go s f p out total hgo h62 h16 he ht)
            have HT : Hid (out.any (fun x => x.1 == Tx.piece s (p + 1) (Tx.nEnd s (p + 1))) = true → R = Tx.bad 3 (p + 1)) := fun ht => HR.out.trans (Tx.mark_twice s f p out total hgo h62 h16 he ht)
            clear hgo h62 HR he
            generalize hnm : Tx.piece s (p + 1) (Tx.nEnd s (p + 1)) = nm at *
            clear hnm
            generalize Tx.nEnd s (p + 1) = en at *
            have HC : Hid (∀ k (hk : k < out.length), ∃ g, ao = some ⟨g, 0, none⟩ ∧ wr.cell? ⟨g, k * 2, none⟩ = some (.string ⟨out[k].1.toArray⟩)) := by
              intro k hk
              rcases hown.2 with ⟨_, h0⟩ | ⟨g, cap, cur, hvv, _⟩
              · omega
              · simp only [Value.slice.injEq] at hvv
                obtain ⟨rfl, _, rfl⟩ := hvv
                exact ⟨g, rfl, (own_pair hown k hk).1⟩
            have HO : Hid _ := hown
            clear hown
            go_wp2
            go_loop [11] (fun i => ∃ k : Nat, k ≤ out.length ∧ i = .int .i64 (k : Int) ∧ Hid (hasN (out.take k) nm = false)) (fun i => out.length - (intOf i).toNat)
            case atStart => exact ⟨0, Nat.zero_le _, rfl, rfl⟩
            case round =>
              obtain ⟨k, hk, rfl, HA⟩ := hrel
              by_cases hkl : k < out.length
              · obtain ⟨g, hg, c0⟩ := HC.out k hkl
                subst hg
                have hkl' : (k : Int) < (out.length : Int) := by omega
                cases hq : (out[k].1 == nm) with
                | true =>
                  have HB : Hid _ := HT.out (hasN_stop out nm k hkl hq)
                  clear HA HT HG
                  go_wp2
                  go_ret3
                  exact reads_bad HB.out (by omega) hbel
                | false =>
                  have HF : Hid _ := hasN_snoc out nm k hkl HA.out hq
                  clear HA
                  go_wp2
                  go_round
                  case rel => exact ⟨k + 1, by omega, by go_num, HF⟩
                  case measure => simp [intOf]; omega
              · have hkl' : ¬ (k : Int) < (out.length : Int) := by omega
                have HI : Hid _ := HG.out (hasN_whole out nm k hkl HA.out)
                clear HA HT HG HC
                go_wp2
                go_loopw [6, 9, 12] (fun lf nx lt wx => ∃ (letters : List UInt8) (q tot g : Nat), nx = .int .i64 (q : Int) ∧ lf = .int .i64 ((4096 - tot : Nat) : Int) ∧ lt = .string ⟨letters.toArray⟩ ∧ tot ≤ 4096 ∧ p < q ∧ q ≤ s.size ∧ s.size + 1 ≤ g + q ∧ letters.length ≤ tot ∧ Hid (R = Tx.faIn s g q q nm letters out tot) ∧ Below wr.heap.size wr wx)
                  (fun _ nx _ _ => s.size + 1 - (intOf nx).toNat)
                case atStart => exact ⟨[], en + 1, total, f, by go_num, rfl, rfl, ht, by omega, by omega, by omega, by simp, HI, Below.refl _ _⟩
                case round =>
                  clear HI
                  obtain ⟨letters, q, tot, g, rfl, rfl, rfl, htt, hpq, hqs, hgq, hll, HI, hbx⟩ := hrel
                  have hsx := hbx.size
                  by_cases hc : (q < s.size ∧ Tx.bt s q ≠ 62) ∨ letters = []
                  · have HBAD : Hid _ := fun hb => HI.out.trans (Tx.fa_bad s g q nm letters out tot hqs hgq htt hc hb)
                    have HGOOD : Hid _ := fun hb => Tx.fa_good s g q nm letters out tot hgq htt hb
                    have hpos : (0 : Int) ≤ (q : Int) := by omega
                    have hcases : (q < s.size ∧ ∃ h : q < s.size, ((s[q].toNat : Int) != 62) = true) ∨ ((q < s.size ∧ ∃ h : q < s.size, ((s[q].toNat : Int) != 62) = false) ∧ letters.isEmpty = true) ∨ (¬ q < s.size ∧ letters.isEmpty = true) := by
                      by_cases hq1 : q < s.size
                      · by_cases hq3 : Tx.bt s q = 62
                        · refine .inr (.inl ⟨⟨hq1, hq1, u8_62 ((Tx.bt_in hq1).symm.trans hq3)⟩, ?_⟩)
                          rcases hc with h | h
                          · exact absurd hq3 h.2
                          · rw [h]; rfl
                        · exact .inl ⟨hq1, hq1, u8_n62 (fun h => hq3 ((Tx.bt_in hq1).trans h))⟩
                      · refine .inr (.inr ⟨hq1, ?_⟩)
                        rcases hc with h | h
                        · exact absurd h.1 hq1
                        · rw [h]; rfl
                    clear hc
                    rcases hcases with ⟨hq1, hq2, h62q⟩ | ⟨⟨hq1, hq2, h62q⟩, hemp⟩ | ⟨hq1, hemp⟩
                    all_goals
                      go_wp2_with fail
                      refine (lettersAt_any s q (4096 - tot) _ hs hqs (by omega)).mono ?_
                      rintro e w2 ⟨hla, hb2⟩
                      rcases hla with ⟨hbad, rfl⟩ | ⟨hgood, rfl⟩
                      · have HB : Hid _ := HBAD.out hbad
                        clear HBAD HGOOD HI hbad
                        go_wp2_with (go_at_call 154; refine (wrong_any s _ _ _ _).mono ?_; rintro e w' ⟨rfl, hw⟩; subst w')
                        go_ret3
                        exact reads_bad HB.out rfl ((hbel.trans (hbx.mono hsz)).trans (hb2.mono (by omega)))
                      · obtain ⟨g2, hg2, hlt2, hpos2, hle2, hfa⟩ := HGOOD.out hgood
                        have HFA : Hid _ := HI.out.trans hfa
                        have hcl := Tx.caps_length s (Tx.rlen s q (4096 - tot)) q
                        clear HBAD HGOOD HI hgood hfa
                        generalize Tx.rlen s q (4096 - tot) = c at *
                        generalize Tx.caps s q c = cs at *
                        have hadd : ∀ wy, (Op.stringOp .add ⟨letters.toArray⟩ ⟨cs.toArray⟩).run Tryz.prog wy = .ok (.string ⟨(letters ++ cs).toArray⟩) wy := fun wy => run_string_add_lists wy letters cs (by omega) (by omega)
                        first
                          | (exfalso; omega)
                          | (go_wp2
                             go_roundw
                             case rel => exact ⟨letters ++ cs, q + c + 1, tot + c, g2, by go_num, by go_num, rfl, by omega, by omega, by omega, by omega, by simp; omega, HFA, hbx.trans (hb2.mono (by omega))⟩
                             case measure => simp [intOf]; omega)
                  · have hne : letters ≠ [] := fun h => hc (.inr h)
                    have hemp : letters.isEmpty = false := by cases letters with
                      | nil => exact absurd rfl hne
                      | cons a r => rfl
                    obtain ⟨g2, hg2, hwh⟩ := Tx.fa_whole s g q nm letters out tot hgq hqs (by omega) hne (fun h => hc (.inl h))
                    have HW : Hid _ := HI.out.trans hwh
                    have hcases : (q < s.size ∧ ∃ h : q < s.size, ((s[q].toNat : Int) != 62) = false) ∨ ¬ q < s.size := by
                      by_cases hq1 : q < s.size
                      · refine .inl ⟨hq1, hq1, ?_⟩
                        by_cases hq3 : Tx.bt s q = 62
                        · exact u8_62 ((Tx.bt_in hq1).symm.trans hq3)
                        · exact absurd (.inl ⟨hq1, hq3⟩) hc
                      · exact .inr hq1
                    clear hc hwh HI hne
                    have hbw := hbel.trans (hbx.mono hsz)
                    have HOX : Hid _ := own_below HO.out hbx
                    rcases hcases with ⟨hq1, hq2, h62q⟩ | hq1
                    all_goals
                      go_wp2_with (at_builtin; refine app_pair rfl _ _ 29 rfl w.heap.size 59 Tryz.underlying29 Tryz.infoContig _ out _ _ (nm, letters) rfl rfl rfl rfl (by exact HOX.out) hbw (by omega) (by omega) ?_; intro v' w3 hown3 hbel3 hsz3)
                      go_roundw
                      case rel => exact ⟨out ++ [(nm, letters)], q, tot, g2, rfl, rfl, htt, by simp; omega, hqs, hg2, HW, hown3, hbel3⟩
                      case measure => simp [intOf]; omega
      · have HB : Hid _ := HR.out.trans (Tx.mark_stop s f p out total hgo h62)
        by_cases hlt : p < s.size
        · have h62' := u8_n62 (fun h => h62 ((Tx.bt_in hlt).trans h))
          have hlt' : (p : Int) < (s.size : Int) := by omega
          clear hgo h62 HR
          go_wp2
          go_ret3
          exact reads_bad HB.out rfl hbel
        · have hp0 : p = 0 := by omega
          subst hp0
          have hs0 : s.size = 0 := by omega
          clear hgo h62 HR
          go_wp2
          go_ret3
          exact reads_bad HB.out rfl hbel
    · have HB : Hid _ := HR.out.trans (Tx.head_end s f p out total hgo)
      have hlt' : ¬ (p : Int) < (s.size : Int) := by omega
      have hp0 : ((p : Int) == 0) = false := by rw [beq_eq_false_iff_ne]; omega
      clear hgo HR
      go_wp2
      go_ret3
      rw [HB.out]
      exact ⟨_, rfl, hown, hbel, fun h => absurd rfl h⟩

end Go.Proofs.YtjebhbopmfcopaaGreatDoor
