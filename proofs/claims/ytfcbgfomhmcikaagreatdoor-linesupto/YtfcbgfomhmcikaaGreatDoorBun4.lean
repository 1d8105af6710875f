/-
  THE DOCUMENT'S RECORDS, its small walks: names, calls, digits, words. Own text of the verifier.
  THE DOCUMENT'S RECORDS: right, and the line of one. Own text of the verifier.
  THE PROGRAM'S records: right or not. Own text of the verifier.
  THE WALK of the program's isRight. Own text of the verifier.
-/
import Derived.Test.YtfcbgfomhmcikaaGreatDoorBun2
import Derived.Test.YtfcbgfomhmcikaaGreatDoorBun3
import Derived.Deep.RegionHeld3
import Derived.Laws.StructEq
namespace Go.Proofs.YtfcbgfomhmcikaaGreatDoor
open Go.RowKit

theorem all_take_succ (p : UInt8 → Bool) (s : ByteArray) (k : Nat) (h : k < s.size) : (s.data.toList.take (k + 1)).all p = ((s.data.toList.take k).all p && p s[k]) := by
  rw [show s.data.toList.take (k + 1) = s.data.toList.take k ++ [s[k]] from Lt.take_snoc s k h, List.all_append]
  simp
theorem all_stop (p : UInt8 → Bool) (s : ByteArray) (k : Nat) (h : k < s.size) (hn : p s[k] = false) : s.data.toList.all p = false := by
  rw [List.all_eq_false]
  exact ⟨s[k], by have : s[k] = s.data.toList[k]'(by simpa using h) := rfl
                  rw [this]; exact List.getElem_mem _, by simp [hn]⟩
theorem all_whole (p : UInt8 → Bool) (s : ByteArray) (k : Nat) (h : ¬ k < s.size) (ht : (s.data.toList.take k).all p = true) : s.data.toList.all p = true := by
  rwa [List.take_of_length_le (by simp; omega)] at ht

/-- a name -/
def Ln.name (l : List UInt8) : Bool := l.all Tx.nb && (decide (1 ≤ l.length) && decide (l.length ≤ 32))

set_option maxRecDepth 100000 in
set_option maxHeartbeats 400000 in
theorem refName_any (s : ByteArray) (w : World) (hs : s.size ≤ maxLen) :
    Calls Tryz.prog 109 #[.string s] w fun e w' => e = .returned (.bool (Ln.name s.data.toList)) ∧ w' = w := by
  unfold maxLen at hs
  have hsz : s.data.toList.length = s.size := by simp
  have HN : Hid (Ln.name s.data.toList = (s.data.toList.all Tx.nb && (decide (1 ≤ s.size) && decide (s.size ≤ 32)))) := by show _ = _; rw [Ln.name, hsz]
  clear hsz
  go_enter Tryz.func109, Tryz.ntmps109
  go_wp2
  go_loop [3] (fun i => ∃ k : Nat, k ≤ s.size ∧ i = .int .i64 k ∧ Hid ((s.data.toList.take k).all Tx.nb = true)) (fun i => s.size - (intOf i).toNat)
  case atStart => exact ⟨0, Nat.zero_le _, rfl, by simp [Hid]⟩
  case round =>
    obtain ⟨k, hk, rfl, HA⟩ := hrel
    by_cases hlt : k < s.size
    · cases hL : Tx.nb s[k] with
      | true =>
        have HS := all_take_succ Tx.nb s k hlt
        rw [HA.out, hL, Bool.and_self] at HS
        have HT : Hid ((s.data.toList.take (k + 1)).all Tx.nb = true) := HS
        clear HS HA
        have HL : Hid _ := hL
        clear hL
        go_wp2_with (go_at_call 99; refine (inName_any _ _).mono ?_; rintro e w' ⟨rfl, hw⟩; subst w'; rw [HL.out])
        go_round
        case rel => exact ⟨k + 1, by omega, by go_num, HT⟩
        case measure => simp [intOf]; omega
      | false =>
        have HF : Hid _ := all_stop Tx.nb s k hlt hL
        have HL : Hid _ := hL
        clear hL HA
        go_wp2_with (go_at_call 99; refine (inName_any _ _).mono ?_; rintro e w' ⟨rfl, hw⟩; subst w'; rw [HL.out])
        go_ret
        exact ⟨ret_bool (by rw [HN.out, HF.out]; rfl), rfl⟩
    · have HF : Hid _ := all_whole Tx.nb s k hlt HA.out
      clear HA
      by_cases h1 : 1 ≤ s.size
      · by_cases h2 : s.size ≤ 32
        · have HF2 : Hid (Ln.name s.data.toList = true) := by show _ = _; rw [HN.out, HF.out, decide_eq_true h1, decide_eq_true h2]; rfl
          go_wp2
          go_ret
          exact ⟨ret_bool (by rw [HF2.out]; simp; try omega), rfl⟩
        · have HF2 : Hid (Ln.name s.data.toList = false) := by show _ = _; rw [HN.out, HF.out, decide_eq_true h1, decide_eq_false h2]; rfl
          go_wp2
          go_ret
          exact ⟨ret_bool (by rw [HF2.out]; simp; try omega), rfl⟩
      · have HF2 : Hid (Ln.name s.data.toList = false) := by show _ = _; rw [HN.out, HF.out, decide_eq_false h1]; rfl
        go_wp2
        go_ret
        exact ⟨ret_bool (by rw [HF2.out]), rfl⟩

/-- a call's byte -/
def Ln.isCall (c : UInt8) : Bool := c == 46 || c == 122 || c == 120 || c == 104 || c == 117 || c == 90 || c == 88 || c == 72 || c == 85

def Ln.calls (l : List UInt8) : Bool := l.all Ln.isCall

theorem isCall_yes {c : UInt8} (h : Ln.isCall c = true) : (c.toNat : Int) = 46 ∨ (c.toNat : Int) = 122 ∨ (c.toNat : Int) = 120 ∨ (c.toNat : Int) = 104 ∨ (c.toNat : Int) = 117 ∨ (c.toNat : Int) = 90 ∨ (c.toNat : Int) = 88 ∨ (c.toNat : Int) = 72 ∨ (c.toNat : Int) = 85 :=
  Lt.every (p := fun c => Ln.isCall c = true → (c.toNat : Int) = 46 ∨ (c.toNat : Int) = 122 ∨ (c.toNat : Int) = 120 ∨ (c.toNat : Int) = 104 ∨ (c.toNat : Int) = 117 ∨ (c.toNat : Int) = 90 ∨ (c.toNat : Int) = 88 ∨ (c.toNat : Int) = 72 ∨ (c.toNat : Int) = 85) (by decide +kernel) c h
theorem isCall_no {c : UInt8} (h : Ln.isCall c = false) : (((c.toNat : Int) == 46) = false ∧ ((c.toNat : Int) == 122) = false ∧ ((c.toNat : Int) == 120) = false ∧ ((c.toNat : Int) == 104) = false ∧ ((c.toNat : Int) == 117) = false) ∧ (((c.toNat : Int) == 90) = false ∧ ((c.toNat : Int) == 88) = false ∧ ((c.toNat : Int) == 72) = false ∧ ((c.toNat : Int) == 85) = false) :=
  Lt.every (p := fun c => Ln.isCall c = false → (((c.toNat : Int) == 46) = false ∧ ((c.toNat : Int) == 122) = false ∧ ((c.toNat : Int) == 120) = false ∧ ((c.toNat : Int) == 104) = false ∧ ((c.toNat : Int) == 117) = false) ∧ (((c.toNat : Int) == 90) = false ∧ ((c.toNat : Int) == 88) = false ∧ ((c.toNat : Int) == 72) = false ∧ ((c.toNat : Int) == 85) = false)) (by decide +kernel) c h

set_option maxRecDepth 100000 in
set_option maxHeartbeats 800000 in
theorem refCalls_any (s : ByteArray) (w : World) (hs : s.size ≤ maxLen) :
    Calls Tryz.prog 110 #[.string s] w fun e w' => e = .returned (.bool (Ln.calls s.data.toList)) ∧ w' = w := by
  unfold maxLen at hs
  obtain ⟨R, hR⟩ : ∃ R, R = Ln.calls s.data.toList := ⟨_, rfl⟩
  rw [← hR]
  have HR : Hid (R = s.data.toList.all Ln.isCall) := hR
  clear hR
  go_enter Tryz.func110, Tryz.ntmps110
  go_wp2
  go_loop [3] (fun i => ∃ k : Nat, k ≤ s.size ∧ i = .int .i64 k ∧ Hid ((s.data.toList.take k).all Ln.isCall = true)) (fun i => s.size - (intOf i).toNat)
  case atStart => exact ⟨0, Nat.zero_le _, rfl, by simp [Hid]⟩
  case round =>
    obtain ⟨k, hk, rfl, HA⟩ := hrel
    by_cases hlt : k < s.size
    · cases hL : Ln.isCall s[k] with
      | true =>
        have HS := all_take_succ Ln.isCall s k hlt
        rw [HA.out, hL, Bool.and_self] at HS
        have HT : Hid ((s.data.toList.take (k + 1)).all Ln.isCall = true) := HS
        clear HS HA
        have hy := isCall_yes hL
        clear hL
        rcases hy with hy | hy | hy | hy | hy | hy | hy | hy | hy
        all_goals
          go_wp2
          go_round
          case rel => exact ⟨k + 1, by omega, by go_num, HT⟩
          case measure => simp [intOf]; omega
      | false =>
        have HF : Hid _ := all_stop Ln.isCall s k hlt hL
        obtain ⟨⟨n1, n2, n3, n4, n5⟩, n6, n7, n8, n9⟩ := isCall_no hL
        clear hL HA
        go_wp2
        go_ret
        exact ⟨ret_bool (by rw [HR.out, HF.out]), rfl⟩
    · have HF : Hid _ := all_whole Ln.isCall s k hlt HA.out
      clear HA
      go_wp2
      go_ret
      exact ⟨ret_bool (by rw [HR.out, HF.out]), rfl⟩

/-- a verdict, a strand, in words -/
def Ln.verdict (n : Int) : List UInt8 := if n == 0 then [117, 110, 109, 97, 112, 112, 101, 100] else if n == 1 then [97, 108, 105, 103, 110, 101, 100] else [97, 109, 98, 105, 103, 117, 111, 117, 115]
def Ln.strand (n : Int) : List UInt8 := if n == 1 then [79, 84] else if n == 2 then [79, 66] else if n == 3 then [67, 84, 79, 84] else [67, 84, 79, 66]

set_option maxHeartbeats 400000 in
theorem verdictName_any (n : Int) (w : World) :
    Calls Tryz.prog 111 #[.int .i64 n] w fun e w' => e = .returned (.string ⟨(Ln.verdict n).toArray⟩) ∧ w' = w := by
  obtain ⟨R, hR⟩ : ∃ R, R = Ln.verdict n := ⟨_, rfl⟩
  rw [← hR]
  unfold Ln.verdict at hR
  cases h0 : (n == 0) <;> cases h1 : (n == 1)
  all_goals
    have HR : Hid (R = _) := hR
    rw [h0, h1] at HR
    clear hR
    go_enter Tryz.func111, Tryz.ntmps111
    go_wp2
    go_ret
    exact ⟨by rw [HR.out]; rfl, rfl⟩

set_option maxHeartbeats 400000 in
theorem strandName_any (n : Int) (w : World) :
    Calls Tryz.prog 112 #[.int .i64 n] w fun e w' => e = .returned (.string ⟨(Ln.strand n).toArray⟩) ∧ w' = w := by
  obtain ⟨R, hR⟩ : ∃ R, R = Ln.strand n := ⟨_, rfl⟩
  rw [← hR]
  unfold Ln.strand at hR
  cases h1 : (n == 1) <;> cases h2 : (n == 2) <;> cases h3 : (n == 3)
  all_goals
    have HR : Hid (R = _) := hR
    rw [h1, h2, h3] at HR
    clear hR
    go_enter Tryz.func112, Tryz.ntmps112
    go_wp2
    go_ret
    exact ⟨by rw [HR.out]; rfl, rfl⟩

/-- a number's digits -/
def Ln.dig : Nat → Nat → List UInt8
  | 0, n => [UInt8.ofNat (48 + n)]
  | f + 1, n => if n < 10 then [UInt8.ofNat (48 + n)] else Ln.dig f (n / 10) ++ [UInt8.ofNat (48 + n % 10)]

theorem Ln.dig_low (f n : Nat) (h : n < 10) : Ln.dig f n = [UInt8.ofNat (48 + n)] := by cases f <;> simp [Ln.dig, h]
theorem Ln.dig_length : ∀ (f n : Nat), (Ln.dig f n).length ≤ f + 1 := by
  intro f
  induction f with
  | zero => intro n; simp [Ln.dig]
  | succ f ih => intro n; unfold Ln.dig; split; simp; have := ih (n / 10); simp; omega

theorem dig_int (n : Nat) (h : n < 10) : (48 : Int) + (n : Int) = ((UInt8.ofNat (48 + n)).toNat : Int) := by
  rw [UInt8.toNat_ofNat']
  omega

/-- one byte just made, as a text -/
theorem conv_one (w : World) (b : Nat) (d : UInt8) (h : w.cell? ⟨b, 0, none⟩ = some (.int .u8 (d.toNat : Int))) :
    (convert 68 9 (.slice (some ⟨b, 0, none⟩) 1 1)).run Tryz.prog w = .ok (.string ⟨#[d]⟩) w :=
  run_convert_bytes_back (P := Tryz.prog) w 68 9 5 ⟨b, 0, none⟩ 1 [d] Tryz.underlying68 Tryz.underlying5 Tryz.underlying9 (fun j hj => by
    match j, hj with
    | 0, _ => simpa [Addr.add] using h)

/-- two texts, put together -/
theorem add_texts (w : World) (x y : List UInt8) (h : x.length + y.length ≤ 9223372036854775807) : (Op.stringOp .add ⟨x.toArray⟩ ⟨y.toArray⟩).run Tryz.prog w = .ok (.string ⟨(x ++ y).toArray⟩) w := by
  have e : ((⟨x.toArray⟩ : ByteArray) ++ ⟨y.toArray⟩) = ⟨(x ++ y).toArray⟩ := by
    apply ByteArray.ext
    simp [ByteArray.data_append]
  have hm : IntKind.i64.max = 9223372036854775807 := by decide
  have hs : ¬ (((⟨x.toArray⟩ : ByteArray).size + (⟨y.toArray⟩ : ByteArray).size : Nat) : Int) > IntKind.i64.max := by
    rw [hm]
    simp [ByteArray.size]
    omega
  simp only [Op.stringOp, if_neg hs, e]
  rfl

set_option maxRecDepth 100000 in
set_option maxHeartbeats 800000 in
theorem digits_any : ∀ (f n : Nat) (w : World), n < 10 ^ (f + 1) → f ≤ 15 →
    Calls Tryz.prog 113 #[.int .i64 (n : Int)] w fun e w' => e = .returned (.string ⟨(Ln.dig f n).toArray⟩) ∧ Below w.heap.size w w' := by
  intro f
  induction f with
  | zero =>
    intro n w h _
    have h10 : n < 10 := by simpa using h
    have hd := dig_int n h10
    obtain ⟨d, hdd⟩ : ∃ d, d = UInt8.ofNat (48 + n) := ⟨_, rfl⟩
    have HD : Hid (Ln.dig 0 n = [d]) := by show _ = _; rw [hdd]; exact Ln.dig_low 0 n h10
    rw [← hdd] at hd
    have hc := conv_one (w.alloc (Obj.cells #[Value.int IntKind.u8 (48 + (n : Int))] 5)) w.heap.size d (by rw [hd]; simp)
    have h' : (n : Int) < 10 := by omega
    clear hdd
    have HB : Hid (∀ o, Below w.heap.size w (w.alloc o)) := fun o => (Below.refl _ _).alloc (Nat.le_refl _) o
    clear hd h
    go_enter Tryz.func113, Tryz.ntmps113
    go_wp2
    go_ret
    exact ⟨by rw [HD.out]; rfl, HB.out _⟩
  | succ f ih =>
    intro n w h hf
    by_cases h10 : n < 10
    · have hd := dig_int n h10
      obtain ⟨d, hdd⟩ : ∃ d, d = UInt8.ofNat (48 + n) := ⟨_, rfl⟩
      have HD : Hid (Ln.dig (f + 1) n = [d]) := by show _ = _; rw [hdd]; exact Ln.dig_low (f + 1) n h10
      rw [← hdd] at hd
      have hc := conv_one (w.alloc (Obj.cells #[Value.int IntKind.u8 (48 + (n : Int))] 5)) w.heap.size d (by rw [hd]; simp)
      have h' : (n : Int) < 10 := by omega
      clear hdd
      have HB : Hid (∀ o, Below w.heap.size w (w.alloc o)) := fun o => (Below.refl _ _).alloc (Nat.le_refl _) o
      clear hd h
      go_enter Tryz.func113, Tryz.ntmps113
      go_wp2
      go_ret
      exact ⟨by rw [HD.out]; rfl, HB.out _⟩
    · have h' : ¬ (n : Int) < 10 := by omega
      have hp : n / 10 < 10 ^ (f + 1) := by
        rw [Nat.pow_succ] at h
        omega
      have hbig : (10 : Nat) ^ (f + 1 + 1) ≤ 10 ^ 17 := Nat.pow_le_pow_right (by omega) (by omega)
      have hn17 : n < 100000000000000000 := by
        have : (10 : Nat) ^ 17 = 100000000000000000 := by decide
        omega
      have HIH : Hid (∀ W : World, Calls Tryz.prog 113 #[.int .i64 ((n : Int) / 10)] W fun e w' => e = .returned (.string ⟨(Ln.dig f (n / 10)).toArray⟩) ∧ Below W.heap.size W w') := fun W => by
        have := ih (n / 10) W hp (by omega)
        rw [show ((n / 10 : Nat) : Int) = (n : Int) / 10 by omega] at this
        exact this
      have HLD : Hid _ := Ln.dig_length f (n / 10)
      obtain ⟨D, hD⟩ : ∃ D, D = Ln.dig f (n / 10) := ⟨_, rfl⟩
      have HD : Hid (Ln.dig (f + 1) n = D ++ [UInt8.ofNat (48 + n % 10)]) := by show _ = _; rw [Ln.dig, if_neg h10, hD]
      rw [← hD] at HIH HLD
      obtain ⟨d, hd⟩ : ∃ d, d = UInt8.ofNat (48 + n % 10) := ⟨_, rfl⟩
      rw [← hd] at HD
      have hdi : (48 : Int) + (n : Int) % 10 = (d.toNat : Int) := by rw [hd, ← dig_int (n % 10) (by omega)]; omega
      have hadd : ∀ wy, (Op.stringOp .add ⟨D.toArray⟩ ⟨#[d]⟩).run Tryz.prog wy = .ok (.string ⟨(D ++ [d]).toArray⟩) wy := fun wy => add_texts wy D [d] (by have := HLD.out; simp; omega)
      have hcv : ∀ (Y : World) (q : Nat), Y.cell? ⟨q, 0, none⟩ = some (.int .u8 (d.toNat : Int)) → (convert 68 9 (.slice (some ⟨q, 0, none⟩) 1 1)).run Tryz.prog Y = .ok (.string ⟨#[d]⟩) Y := fun Y q hq => conv_one Y q d hq
      have hw1 : IntKind.i64.wrap ((n : Int) / 10) = (n : Int) / 10 := Go.wrap_small _ (by omega) (by omega)
      have htm : (n : Int).tmod 10 = (n : Int) % 10 := Int.tmod_eq_emod_of_nonneg (by omega)
      have hw3 : IntKind.i64.wrap (48 + (n : Int).tmod 10) = 48 + (n : Int).tmod 10 := Go.wrap_small _ (by omega) (by omega)
      have hw4 : IntKind.u8.wrap (48 + (n : Int).tmod 10) = (d.toNat : Int) := by rw [htm, ← hdi]; exact wraps_u8 _ (by omega) (by omega)
      have HXC : Hid (∀ (W w1 : World), Below W.heap.size W w1 → W.cell? ⟨w.heap.size, 0, none⟩ = some (.int .u8 (d.toNat : Int)) → ∀ {p : Prop}, (w1.cell? ⟨w.heap.size, 0, none⟩ = some (.int .u8 (d.toNat : Int)) → p) → p) := fun W w1 hb hc p k => k ((hb.cell (World.block_lt_of_cell? W _ hc)).trans hc)
      have HB1 : Hid (∀ (w1 : World) (o : Obj), Below w.drew.heap.size w.drew w1 → Below w.heap.size w (w1.alloc o)) := fun w1 o hb => by
        have h1 : Below w.heap.size w w1 := (Below.refl _ _).drew.trans hb
        exact h1.alloc h1.size o
      have HB2 : Hid (∀ (W w1 : World), Below w.heap.size w W → Below W.heap.size W w1 → Below w.heap.size w w1) := fun W w1 h1 h2 => h1.trans (h2.mono h1.size)
      clear hD hd h hp hbig ih hdi htm
      go_enter Tryz.func113, Tryz.ntmps113
      go_wp2_with fail
      go_region_with (first
        | (go_at_call 113; refine (HIH.out _).mono ?_; rintro e w1 ⟨rfl, hb1⟩; try (refine HXC.out _ w1 hb1 ?_ (fun hx => ?_); · (simp; done))))
      all_goals
        go_wp2
        go_ret
        refine ⟨by rw [HD.out]; rfl, ?_⟩
        first
          | exact HB1.out _ _ hb1
          | exact HB2.out _ _ (((Below.refl _ _).alloc (Nat.le_refl _) _).drew) hb1
          | exact HB2.out _ _ ((Below.refl _ _).drew.alloc (Nat.le_refl _) _) hb1

end Go.Proofs.YtfcbgfomhmcikaaGreatDoor

namespace Go.Proofs.YtfcbgfomhmcikaaGreatDoor
open Go.RowKit

/-- a record -/
structure Rc where
  nm : List UInt8
  vd : Int
  sd : Int
  ct : List UInt8
  pl : Int
  mm : Int
  lt : List UInt8
  cl : List UInt8

def Rc.vals (r : Rc) : Array Value := #[.string ⟨r.nm.toArray⟩, .int .i64 r.vd, .int .i64 r.sd, .string ⟨r.ct.toArray⟩, .int .i64 r.pl, .int .i64 r.mm, .string ⟨r.lt.toArray⟩, .string ⟨r.cl.toArray⟩]

/-- all but the name and the verdict are zero -/
def Rc.bare (r : Rc) : Bool := r.sd == 0 && (r.ct.isEmpty && (r.pl == 0 && (r.mm == 0 && (r.lt.isEmpty && r.cl.isEmpty))))

theorem eq_bare (n c l k : List UInt8) (v s p m : Int) (w : World) :
    (Op.equalIn 10000 47 (.agg #[.string ⟨n.toArray⟩, .int .i64 v, .int .i64 s, .string ⟨c.toArray⟩, .int .i64 p, .int .i64 m, .string ⟨l.toArray⟩, .string ⟨k.toArray⟩]) (.agg #[.string ⟨n.toArray⟩, .int .i64 v, .int .i64 0, .string ⟨#[]⟩, .int .i64 0, .int .i64 0, .string ⟨#[]⟩, .string ⟨#[]⟩])).run Tryz.prog w = .ok (s == 0 && (c.isEmpty && (p == 0 && (m == 0 && (l.isEmpty && k.isEmpty))))) w := by
  simp [go_sem, Tryz.underlying47, Tryz.underlying9, Tryz.underlying3]
  repeat' split
  all_goals simp_all

theorem eql_bare (n c l k : List UInt8) (v s p m : Int) (w : World) :
    (binOp .eql 47 (.agg #[.string ⟨n.toArray⟩, .int .i64 v, .int .i64 s, .string ⟨c.toArray⟩, .int .i64 p, .int .i64 m, .string ⟨l.toArray⟩, .string ⟨k.toArray⟩]) (.agg #[.string ⟨n.toArray⟩, .int .i64 v, .int .i64 0, .string ⟨#[]⟩, .int .i64 0, .int .i64 0, .string ⟨#[]⟩, .string ⟨#[]⟩])).run Tryz.prog w = .ok (.bool (s == 0 && (c.isEmpty && (p == 0 && (m == 0 && (l.isEmpty && k.isEmpty)))))) w := by
  rw [run_eql_struct, eq_bare]; rfl

/-- an aligned record's other fields -/
def Rc.full (r : Rc) : Bool := Lt.strandB r.sd && (Ln.name r.ct && (Lt.allL r.lt && (Ln.calls r.cl && (decide (0 ≤ r.pl) && (decide (r.pl ≤ 4096) && (decide (1 ≤ (r.lt.length : Int)) && (decide ((r.lt.length : Int) ≤ 128) && (decide (0 ≤ r.mm) && (decide (r.mm ≤ (r.lt.length : Int)) && ((r.cl.length : Int) == (r.lt.length : Int)))))))))))
/-- a record that is right -/
def Rc.right (r : Rc) : Bool := if Ln.name r.nm = false then false else if r.vd < 0 then false else if 2 < r.vd then false else if r.vd = 1 then r.full else r.bare

/-- its texts are of a size that can be -/
structure Rc.Small (r : Rc) : Prop where
  nm : r.nm.length ≤ 140737488355327
  ct : r.ct.length ≤ 140737488355327
  lt : r.lt.length ≤ 140737488355327
  cl : r.cl.length ≤ 140737488355327

theorem str_size (l : List UInt8) : (⟨l.toArray⟩ : ByteArray).size = l.length := by simp [ByteArray.size]
theorem str_small {l : List UInt8} (h : l.length ≤ 140737488355327) : (⟨l.toArray⟩ : ByteArray).size ≤ maxLen := by rw [str_size]; unfold maxLen; omega

set_option maxRecDepth 100000 in
set_option maxHeartbeats 1600000 in
theorem right_any (r : Rc) (w : World) (hr : r.Small) :
    Calls Tryz.prog 77 #[.agg r.vals] w fun e w' => e = .returned (.bool r.right) ∧ Below w.heap.size w w' := by
  obtain ⟨n, v, s, c, p, m, l, k⟩ := r
  obtain ⟨h1, h2, h3, h4⟩ := hr
  have z1 := str_small h1
  have z2 := str_small h2
  have z3 := str_small h3
  have z4 := str_small h4
  obtain ⟨R, hR⟩ : ∃ R, R = Rc.right ⟨n, v, s, c, p, m, l, k⟩ := ⟨_, rfl⟩
  rw [← hR]
  have HB : Hid (∀ o, Below w.heap.size w (w.alloc o)) := fun o => (Below.refl _ _).alloc (Nat.le_refl _) o
  unfold Rc.vals
  have heq := eql_bare
  dsimp only at h1 h2 h3 h4 z1 z2 z3 z4 ⊢
  cases hn : Ln.name n with
  | false =>
    have HR : Hid (R = false) := by show _ = _; rw [hR]; simp [Rc.right, hn]
    have HN : Hid _ := hn
    clear hR hn heq
    go_enter Tryz.func77, Tryz.ntmps77
    go_wp2_with (go_at_call 109; refine (refName_any _ _ z1).mono ?_; rintro e w' ⟨rfl, hw⟩; subst w'; rw [HN.out])
    go_ret
    exact ⟨ret_bool HR.out.symm, HB.out _⟩
  | true =>
    have HN : Hid _ := hn
    by_cases hv0 : v < 0
    · have HR : Hid (R = false) := by show _ = _; rw [hR]; simp [Rc.right, hn, hv0]
      clear hR hn heq
      go_enter Tryz.func77, Tryz.ntmps77
      go_wp2_with (go_at_call 109; refine (refName_any _ _ z1).mono ?_; rintro e w' ⟨rfl, hw⟩; subst w'; rw [HN.out])
      go_ret
      exact ⟨ret_bool HR.out.symm, HB.out _⟩
    · by_cases hv2 : 2 < v
      · have HR : Hid (R = false) := by show _ = _; rw [hR]; simp [Rc.right, hn, hv0, hv2]
        clear hR hn heq
        go_enter Tryz.func77, Tryz.ntmps77
        go_wp2_with (go_at_call 109; refine (refName_any _ _ z1).mono ?_; rintro e w' ⟨rfl, hw⟩; subst w'; rw [HN.out])
        go_ret
        exact ⟨ret_bool HR.out.symm, HB.out _⟩
      · by_cases hv1 : v = 1
        · have HR : Hid (R = Rc.full ⟨n, v, s, c, p, m, l, k⟩) := by show _ = _; rw [hR]; simp [Rc.right, hn, hv1]
          subst hv1
          clear hR hn heq
          go_enter Tryz.func77, Tryz.ntmps77
          go_wp2_with (first
            | (go_at_call_of 109 (Value.string ⟨n.toArray⟩); refine (refName_any _ _ z1).mono ?_; rintro e w' ⟨rfl, hw⟩; subst w'; rw [HN.out])
            | (go_at_call 109; refine (refName_any _ _ z2).mono ?_; rintro e w' ⟨rfl, hw⟩; subst w')
            | (go_at_call 40; refine (strand_any _ _).mono ?_; rintro e w' ⟨rfl, hw⟩; subst w')
            | (go_at_call 37; refine (plain_any _ _ z3).mono ?_; rintro e w' ⟨rfl, hw⟩; subst w')
            | (go_at_call 110; refine (refCalls_any _ _ z4).mono ?_; rintro e w' ⟨rfl, hw⟩; subst w'))
          all_goals
            go_ret
            refine ⟨ret_bool ?_, HB.out _⟩
            rw [HR.out]
            simp only [Rc.full]
            simp [*]
            try omega
        · have HR : Hid (R = (s == 0 && (c.isEmpty && (p == 0 && (m == 0 && (l.isEmpty && k.isEmpty)))))) := by show _ = _; rw [hR]; simp [Rc.right, hn, hv0, hv2, hv1, Rc.bare]
          have hv1' : (v != 1) = true := by rw [bne_iff_ne]; exact hv1
          clear hR hn
          go_enter Tryz.func77, Tryz.ntmps77
          go_wp2_with (go_at_call 109; refine (refName_any _ _ z1).mono ?_; rintro e w' ⟨rfl, hw⟩; subst w'; rw [HN.out])
          go_ret
          exact ⟨ret_bool HR.out.symm, HB.out _⟩

end Go.Proofs.YtfcbgfomhmcikaaGreatDoor

namespace Go.Proofs.YtfcbgfomhmcikaaGreatDoor
open Go.RowKit

set_option maxRecDepth 100000 in
set_option maxHeartbeats 400000 in
theorem isName_any (s : ByteArray) (w : World) (hs : s.size ≤ maxLen) :
    Calls Tryz.prog 100 #[.string s] w fun e w' => e = .returned (.bool (Ln.name s.data.toList)) ∧ w' = w := by
  unfold maxLen at hs
  have hsz : s.data.toList.length = s.size := by simp
  have HN : Hid (Ln.name s.data.toList = (s.data.toList.all Tx.nb && (decide (1 ≤ s.size) && decide (s.size ≤ 32)))) := by show _ = _; rw [Ln.name, hsz]
  clear hsz
  go_enter Tryz.func100, Tryz.ntmps100
  go_wp2
  go_loop [6] (fun i => ∃ k : Nat, k ≤ s.size ∧ i = .int .i64 k ∧ Hid ((s.data.toList.take k).all Tx.nb = true)) (fun i => s.size - (intOf i).toNat)
  case atStart => exact ⟨0, Nat.zero_le _, rfl, by simp [Hid]⟩
  case round =>
    obtain ⟨k, hk, rfl, HA⟩ := hrel
    by_cases hlt : k < s.size
    · cases hL : Tx.nb s[k] with
      | true =>
        have HS := all_take_succ Tx.nb s k hlt
        rw [HA.out, hL, Bool.and_self] at HS
        have HT : Hid ((s.data.toList.take (k + 1)).all Tx.nb = true) := HS
        clear HS HA
        have HL : Hid _ := hL
        clear hL
        go_wp2_with (go_at_call 98; refine (isNameByte_any _ _).mono ?_; rintro e w' ⟨rfl, hw⟩; subst w'; rw [HL.out])
        go_round
        case rel => exact ⟨k + 1, by omega, by go_num, HT⟩
        case measure => simp [intOf]; omega
      | false =>
        have HF : Hid _ := all_stop Tx.nb s k hlt hL
        have HL : Hid _ := hL
        clear hL HA
        go_wp2_with (go_at_call 98; refine (isNameByte_any _ _).mono ?_; rintro e w' ⟨rfl, hw⟩; subst w'; rw [HL.out])
        go_ret
        exact ⟨ret_bool (by rw [HN.out, HF.out]; rfl), rfl⟩
    · have HF : Hid _ := all_whole Tx.nb s k hlt HA.out
      clear HA
      by_cases h1 : 1 ≤ s.size
      · by_cases h2 : s.size ≤ 32
        · have HF2 : Hid (Ln.name s.data.toList = true) := by show _ = _; rw [HN.out, HF.out, decide_eq_true h1, decide_eq_true h2]; rfl
          go_wp2
          go_ret
          exact ⟨ret_bool (by rw [HF2.out]; simp; try omega), rfl⟩
        · have HF2 : Hid (Ln.name s.data.toList = false) := by show _ = _; rw [HN.out, HF.out, decide_eq_true h1, decide_eq_false h2]; rfl
          go_wp2
          go_ret
          exact ⟨ret_bool (by rw [HF2.out]; simp; try omega), rfl⟩
      · have HF2 : Hid (Ln.name s.data.toList = false) := by show _ = _; rw [HN.out, HF.out, decide_eq_false h1]; rfl
        go_wp2
        go_ret
        exact ⟨ret_bool (by rw [HF2.out]), rfl⟩

set_option maxRecDepth 100000 in
set_option maxHeartbeats 800000 in
theorem areCalls_any (s : ByteArray) (w : World) (hs : s.size ≤ maxLen) :
    Calls Tryz.prog 103 #[.string s] w fun e w' => e = .returned (.bool (Ln.calls s.data.toList)) ∧ w' = w := by
  unfold maxLen at hs
  obtain ⟨R, hR⟩ : ∃ R, R = Ln.calls s.data.toList := ⟨_, rfl⟩
  rw [← hR]
  have HR : Hid (R = s.data.toList.all Ln.isCall) := hR
  clear hR
  go_enter Tryz.func103, Tryz.ntmps103
  go_wp2
  go_loop [6] (fun i => ∃ k : Nat, k ≤ s.size ∧ i = .int .i64 k ∧ Hid ((s.data.toList.take k).all Ln.isCall = true)) (fun i => s.size - (intOf i).toNat)
  case atStart => exact ⟨0, Nat.zero_le _, rfl, by simp [Hid]⟩
  case round =>
    obtain ⟨k, hk, rfl, HA⟩ := hrel
    by_cases hlt : k < s.size
    · cases hL : Ln.isCall s[k] with
      | true =>
        have HS := all_take_succ Ln.isCall s k hlt
        rw [HA.out, hL, Bool.and_self] at HS
        have HT : Hid ((s.data.toList.take (k + 1)).all Ln.isCall = true) := HS
        clear HS HA
        have hy := isCall_yes hL
        clear hL
        rcases hy with hy | hy | hy | hy | hy | hy | hy | hy | hy
        all_goals
          go_wp2
          go_round
          case rel => exact ⟨k + 1, by omega, by go_num, HT⟩
          case measure => simp [intOf]; omega
      | false =>
        have HF : Hid _ := all_stop Ln.isCall s k hlt hL
        obtain ⟨⟨n1, n2, n3, n4, n5⟩, n6, n7, n8, n9⟩ := isCall_no hL
        clear hL HA
        go_wp2
        go_ret
        exact ⟨ret_bool (by rw [HR.out, HF.out]), rfl⟩
    · have HF : Hid _ := all_whole Ln.isCall s k hlt HA.out
      clear HA
      go_wp2
      go_ret
      exact ⟨ret_bool (by rw [HR.out, HF.out]), rfl⟩

set_option maxHeartbeats 400000 in
theorem isWithin_any (n m : Int) (w : World) :
    Calls Tryz.prog 101 #[.int .i64 n, .int .i64 m] w fun e w' => e = .returned (.bool (decide (0 ≤ n) && decide (n ≤ m))) ∧ w' = w := by
  by_cases h1 : 0 ≤ n <;> by_cases h2 : n ≤ m
  all_goals
    go_enter Tryz.func101, Tryz.ntmps101
    go_wp2
    go_ret
    exact ⟨ret_bool (by simp [h1, h2]), rfl⟩

set_option maxHeartbeats 400000 in
theorem areRead_any (s : ByteArray) (w : World) (hs : s.size ≤ maxLen) :
    Calls Tryz.prog 102 #[.string s] w fun e w' => e = .returned (.bool (decide (1 ≤ s.size) && (decide (s.size ≤ 128) && Lt.allL s.data.toList))) ∧ w' = w := by
  have hs' := hs
  unfold maxLen at hs'
  obtain ⟨A, hA⟩ : ∃ A, A = Lt.allL s.data.toList := ⟨_, rfl⟩
  rw [← hA]
  have HC : Hid (∀ W, Calls Tryz.prog 35 #[.string s] W fun e w' => e = .returned (.bool A) ∧ w' = W) := fun W => by rw [hA]; exact areLetters_any s W hs
  clear hA
  by_cases h1 : 1 ≤ s.size <;> by_cases h2 : s.size ≤ 128
  all_goals
    have h1' := h1
    have h2' := h2
    go_enter Tryz.func102, Tryz.ntmps102
    go_wp2_with (go_at_call 35; refine (HC.out _).mono ?_; rintro e w' ⟨rfl, hw⟩; subst w')
    all_goals
      go_ret
      exact ⟨ret_bool (by simp [h1, h2]), rfl⟩

end Go.Proofs.YtfcbgfomhmcikaaGreatDoor

namespace Go.Proofs.YtfcbgfomhmcikaaGreatDoor
open Go.RowKit

set_option maxRecDepth 100000 in
set_option maxHeartbeats 1600000 in
theorem isRight_any (r : Rc) (w : World) (hr : r.Small) :
    Calls Tryz.prog 74 #[.agg r.vals] w fun e w' => e = .returned (.bool r.right) ∧ Below w.heap.size w w' := by
  obtain ⟨n, v, s, c, p, m, l, k⟩ := r
  obtain ⟨h1, h2, h3, h4⟩ := hr
  have z1 := str_small h1
  have z2 := str_small h2
  have z3 := str_small h3
  have z4 := str_small h4
  obtain ⟨R, hR⟩ : ∃ R, R = Rc.right ⟨n, v, s, c, p, m, l, k⟩ := ⟨_, rfl⟩
  rw [← hR]
  have HB : Hid (∀ o, Below w.heap.size w (w.alloc o)) := fun o => (Below.refl _ _).alloc (Nat.le_refl _) o
  unfold Rc.vals
  have heq := eql_bare
  dsimp only at h1 h2 h3 h4 z1 z2 z3 z4 ⊢
  cases hn : Ln.name n with
  | false =>
    have HR : Hid (R = false) := by show _ = _; rw [hR]; simp [Rc.right, hn]
    have HN : Hid _ := hn
    clear hR hn heq
    go_enter Tryz.func74, Tryz.ntmps74
    go_wp2_with (go_at_call 100; refine (isName_any _ _ z1).mono ?_; rintro e w' ⟨rfl, hw⟩; subst w'; rw [HN.out])
    go_ret
    exact ⟨ret_bool HR.out.symm, HB.out _⟩
  | true =>
    have HN : Hid _ := hn
    by_cases hv0 : v < 0
    · have HR : Hid (R = false) := by show _ = _; rw [hR]; simp [Rc.right, hn, hv0]
      have e0 : (v == 0) = false := by rw [beq_eq_false_iff_ne]; omega
      have e1 : (v == 1) = false := by rw [beq_eq_false_iff_ne]; omega
      have e2 : (v == 2) = false := by rw [beq_eq_false_iff_ne]; omega
      clear hR hn heq
      go_enter Tryz.func74, Tryz.ntmps74
      go_wp2_with (go_at_call 100; refine (isName_any _ _ z1).mono ?_; rintro e w' ⟨rfl, hw⟩; subst w'; rw [HN.out])
      go_ret
      exact ⟨ret_bool HR.out.symm, HB.out _⟩
    · by_cases hv2 : 2 < v
      · have HR : Hid (R = false) := by show _ = _; rw [hR]; simp [Rc.right, hn, hv0, hv2]
        have e0 : (v == 0) = false := by rw [beq_eq_false_iff_ne]; omega
        have e1 : (v == 1) = false := by rw [beq_eq_false_iff_ne]; omega
        have e2 : (v == 2) = false := by rw [beq_eq_false_iff_ne]; omega
        clear hR hn heq
        go_enter Tryz.func74, Tryz.ntmps74
        go_wp2_with (go_at_call 100; refine (isName_any _ _ z1).mono ?_; rintro e w' ⟨rfl, hw⟩; subst w'; rw [HN.out])
        go_ret
        exact ⟨ret_bool HR.out.symm, HB.out _⟩
      · by_cases hv1 : v = 1
        · have HR : Hid (R = Rc.full ⟨n, v, s, c, p, m, l, k⟩) := by show _ = _; rw [hR]; simp [Rc.right, hn, hv1]
          obtain ⟨bS, hbS⟩ : ∃ b, b = Lt.strandB s := ⟨_, rfl⟩
          obtain ⟨bC, hbC⟩ : ∃ b, b = Ln.name c := ⟨_, rfl⟩
          obtain ⟨bP, hbP⟩ : ∃ b, b = (decide (0 ≤ p) && decide (p ≤ 4096)) := ⟨_, rfl⟩
          obtain ⟨bA, hbA⟩ : ∃ b, b = (decide (1 ≤ (⟨l.toArray⟩ : ByteArray).size) && (decide ((⟨l.toArray⟩ : ByteArray).size ≤ 128) && Lt.allL (⟨l.toArray⟩ : ByteArray).data.toList)) := ⟨_, rfl⟩
          obtain ⟨bM, hbM⟩ : ∃ b, b = (decide (0 ≤ m) && decide (m ≤ (l.length : Int))) := ⟨_, rfl⟩
          obtain ⟨bE, hbE⟩ : ∃ b, b = ((k.length : Int) == (l.length : Int)) := ⟨_, rfl⟩
          obtain ⟨bK, hbK⟩ : ∃ b, b = Ln.calls k := ⟨_, rfl⟩
          have HRB : Hid (R = (bS && (bC && (bP && (bA && (bM && (bE && bK))))))) := by
            show _ = _
            rw [HR.out, hbS, hbC, hbP, hbA, hbM, hbE, hbK, str_size, show (⟨l.toArray⟩ : ByteArray).data.toList = l from by simp]
            unfold Rc.full
            dsimp only
            have c1 : decide (1 ≤ (l.length : Int)) = decide (1 ≤ l.length) := by by_cases h : 1 ≤ l.length <;> simp <;> omega
            have c2 : decide ((l.length : Int) ≤ 128) = decide (l.length ≤ 128) := by by_cases h : l.length ≤ 128 <;> simp <;> omega
            rw [c1, c2]
            generalize Lt.strandB s = a1
            generalize Ln.name c = a2
            generalize Lt.allL l = a3
            generalize Ln.calls k = a4
            generalize decide (0 ≤ p) = a5
            generalize decide (p ≤ 4096) = a6
            generalize decide (1 ≤ l.length) = a7
            generalize decide (l.length ≤ 128) = a8
            generalize decide (0 ≤ m) = a9
            generalize decide (m ≤ (l.length : Int)) = b1
            generalize ((k.length : Int) == (l.length : Int)) = b2
            revert a1 a2 a3 a4 a5 a6 a7 a8 a9 b1 b2
            decide
          have K1 : Hid (∀ W, Calls Tryz.prog 71 #[.int .i64 s] W fun e w' => e = .returned (.bool bS) ∧ w' = W) := fun W => by rw [hbS]; exact strIs_any s W
          have K2 : Hid (∀ W, Calls Tryz.prog 100 #[.string ⟨c.toArray⟩] W fun e w' => e = .returned (.bool bC) ∧ w' = W) := fun W => by rw [hbC]; exact isName_any _ W z2
          have K3 : Hid (∀ W, Calls Tryz.prog 101 #[.int .i64 p, .int .i64 4096] W fun e w' => e = .returned (.bool bP) ∧ w' = W) := fun W => by rw [hbP]; exact isWithin_any p 4096 W
          have K4 : Hid (∀ W, Calls Tryz.prog 102 #[.string ⟨l.toArray⟩] W fun e w' => e = .returned (.bool bA) ∧ w' = W) := fun W => by rw [hbA]; exact areRead_any _ W z3
          have K5 : Hid (∀ W, Calls Tryz.prog 101 #[.int .i64 m, .int .i64 (l.length : Int)] W fun e w' => e = .returned (.bool bM) ∧ w' = W) := fun W => by rw [hbM]; exact isWithin_any m _ W
          have K6 : Hid (∀ W, Calls Tryz.prog 103 #[.string ⟨k.toArray⟩] W fun e w' => e = .returned (.bool bK) ∧ w' = W) := fun W => by rw [hbK]; exact areCalls_any _ W z4
          have HBE : Hid _ := hbE
          subst hv1
          clear hR hn heq hbS hbC hbP hbA hbM hbE hbK HR
          cases bS <;> cases bC <;> cases bP <;> cases bA <;> cases bM <;> cases bE
          all_goals
            have hE9 := HBE.out.symm
            go_enter Tryz.func74, Tryz.ntmps74
            go_wp2_with (first
              | (go_at_call_of 100 (Value.string ⟨n.toArray⟩); refine (isName_any _ _ z1).mono ?_; rintro e w' ⟨rfl, hw⟩; subst w'; rw [HN.out])
              | (go_at_call 100; refine (K2.out _).mono ?_; rintro e w' ⟨rfl, hw⟩; subst w')
              | (go_at_call 71; refine (K1.out _).mono ?_; rintro e w' ⟨rfl, hw⟩; subst w')
              | (go_at_call_of 101 (Value.int .i64 4096); refine (K3.out _).mono ?_; rintro e w' ⟨rfl, hw⟩; subst w')
              | (go_at_call 101; refine (K5.out _).mono ?_; rintro e w' ⟨rfl, hw⟩; subst w')
              | (go_at_call 102; refine (K4.out _).mono ?_; rintro e w' ⟨rfl, hw⟩; subst w')
              | (go_at_call 103; refine (K6.out _).mono ?_; rintro e w' ⟨rfl, hw⟩; subst w'))
            all_goals
              go_ret
              exact ⟨ret_bool (by rw [HRB.out]; simp), HB.out _⟩
        · have HR : Hid (R = (s == 0 && (c.isEmpty && (p == 0 && (m == 0 && (l.isEmpty && k.isEmpty)))))) := by show _ = _; rw [hR]; simp [Rc.right, hn, hv0, hv2, hv1, Rc.bare]
          have hv02 : v = 0 ∨ v = 2 := by omega
          clear hR hn hv0 hv2 hv1
          rcases hv02 with rfl | rfl
          all_goals
            go_enter Tryz.func74, Tryz.ntmps74
            go_wp2_with (go_at_call 100; refine (isName_any _ _ z1).mono ?_; rintro e w' ⟨rfl, hw⟩; subst w'; rw [HN.out])
            go_ret
            exact ⟨ret_bool HR.out.symm, HB.out _⟩

end Go.Proofs.YtfcbgfomhmcikaaGreatDoor
