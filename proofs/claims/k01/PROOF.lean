import PyProof.Rows.All
import HandS.ForMost
import HandS.IsInst
import HandS.Wide
import HandS.Gcd
import HandS.Walk
import HandS.Evl
import HandS.Flow
import HandS.WideBits
import HandS.Defaults
import Flt.RightSqrt
import HandS.ForExc
import HandS.FStr
import HandS.RaiseMore
import HandS.ExcIs
import HandS.ExcValue
import PySem.Challenge.RW_rootladder_k01_what_is_refused
set_option linter.all false
namespace Lad
/-! States of the ladder of the root of n, whose whole root is r: what there is = (root + P) / Q. -/
structure Wh (n r : Int) : Prop where
  pos : 1 ≤ r
  lo : r * r < n
  hi : n < (r + 1) * (r + 1)
def quo (r : Int) (s : Int × Int) : Int := (r + s.1) / s.2
def stp (n r : Int) (s : Int × Int) : Int × Int := (quo r s * s.2 - s.1, (n - (quo r s * s.2 - s.1) * (quo r s * s.2 - s.1)) / s.2)
def sig (n : Int) (s : Int × Int) : Int × Int := (s.1, (n - s.1 * s.1) / s.2)
structure Red (n r : Int) (s : Int × Int) : Prop where
  p1 : 1 ≤ s.1
  pr : s.1 ≤ r
  q1 : 1 ≤ s.2
  dv : s.2 ∣ n - s.1 * s.1
  lo : r - s.1 < s.2
  hi : s.2 ≤ r + s.1
/-- the two bounds of Q and of its partner W go together -/
theorem pair_bounds {n r P Q W : Int} (w : Wh n r) (p1 : 1 ≤ P) (pr : P ≤ r) (q1 : 1 ≤ Q) (e : Q * W = n - P * P) (lo : r - P < Q) (hi : Q ≤ r + P) : 1 ≤ W ∧ r - P < W ∧ W ≤ r + P := by
  have hl := w.lo
  have hh := w.hi
  have hpp : P * P ≤ r * r := Int.mul_le_mul pr pr (by omega) (by omega)
  have w1 : 1 ≤ W := by
    by_cases h : W ≤ 0
    · have : Q * W ≤ 0 := Int.mul_nonpos_of_nonneg_of_nonpos (by omega) h
      omega
    · omega
  refine ⟨w1, ?_, ?_⟩
  · by_cases h : W ≤ r - P
    · have h1 : Q * W ≤ (r + P) * (r - P) := Int.mul_le_mul hi h (by omega) (by omega)
      have h2 : (r + P) * (r - P) = r * r - P * P := by grind
      omega
    · omega
  · by_cases h : r + P + 1 ≤ W
    · have h1 : (r - P + 1) * (r + P + 1) ≤ Q * W := Int.mul_le_mul (by omega) h (by omega) (by omega)
      have h2 : (r - P + 1) * (r + P + 1) = (r + 1) * (r + 1) - P * P := by grind
      omega
    · omega
theorem Red.w {n r : Int} {s : Int × Int} (h : Red n r s) : s.2 * ((n - s.1 * s.1) / s.2) = n - s.1 * s.1 := by
  rw [Int.mul_comm]; exact Int.ediv_mul_cancel h.dv
theorem Red.sig {n r : Int} {s : Int × Int} (w : Wh n r) (h : Red n r s) : Red n r (sig n s) := by
  obtain ⟨a, b, c⟩ := pair_bounds w h.p1 h.pr h.q1 h.w h.lo h.hi
  refine ⟨h.p1, h.pr, a, ⟨s.2, ?_⟩, b, c⟩
  show n - s.1 * s.1 = (n - s.1 * s.1) / s.2 * s.2
  rw [Int.ediv_mul_cancel h.dv]
theorem sig_sig {n r : Int} {s : Int × Int} (w : Wh n r) (h : Red n r s) : sig n (sig n s) = s := by
  have h2 := (h.sig w).q1
  have e := h.w
  unfold sig
  refine Prod.ext rfl ?_
  show (n - s.1 * s.1) / ((n - s.1 * s.1) / s.2) = s.2
  have h3 : 1 ≤ (n - s.1 * s.1) / s.2 := h2
  generalize (n - s.1 * s.1) / s.2 = W at *
  rw [← e]
  exact Int.mul_ediv_cancel _ (by omega)
/-- the quotient: Q q = r + P - rest -/
theorem quo_spec {r : Int} {s : Int × Int} (q1 : 1 ≤ s.2) : quo r s * s.2 ≤ r + s.1 ∧ r + s.1 < quo r s * s.2 + s.2 := by
  unfold quo
  have h1 := Int.mul_ediv_add_emod (r + s.1) s.2
  have h2 := Int.emod_nonneg (r + s.1) (show s.2 ≠ 0 by omega)
  have h3 := Int.emod_lt_of_pos (r + s.1) (show 0 < s.2 by omega)
  rw [Int.mul_comm] at h1
  omega
theorem quo_pos {n r : Int} {s : Int × Int} (h : Red n r s) : 1 ≤ quo r s := by
  unfold quo
  have := h.q1
  have := h.hi
  exact (Int.le_ediv_iff_mul_le (by omega)).mpr (by omega)
/-- what a step gives, by its own words -/
theorem stp_mul {n r : Int} {s : Int × Int} (hd : s.2 ∣ n - s.1 * s.1) : s.2 * (stp n r s).2 = n - (stp n r s).1 * (stp n r s).1 := by
  show s.2 * ((n - (quo r s * s.2 - s.1) * (quo r s * s.2 - s.1)) / s.2) = _
  rw [Int.mul_comm]
  refine Int.ediv_mul_cancel ?_
  obtain ⟨c, hc⟩ := hd
  exact ⟨c - quo r s * quo r s * s.2 + 2 * quo r s * s.1, by grind⟩
theorem Red.stp {n r : Int} {s : Int × Int} (w : Wh n r) (h : Red n r s) : Red n r (stp n r s) := by
  obtain ⟨a, b⟩ := quo_spec (r := r) h.q1
  have c := quo_pos h
  have e := stp_mul (r := r) h.dv
  have ep : (Lad.stp n r s).1 = quo r s * s.2 - s.1 := rfl
  have p1 := h.p1
  have pr := h.pr
  have q1 := h.q1
  have lo := h.lo
  have hq : s.2 ≤ quo r s * s.2 := by
    have := Int.mul_le_mul_of_nonneg_right c (show 0 ≤ s.2 by omega)
    omega
  have b1 : 1 ≤ (Lad.stp n r s).1 := by
    by_cases z : s.2 ≤ r <;> omega
  have b2 : (Lad.stp n r s).1 ≤ r := by omega
  obtain ⟨x, y, z⟩ := pair_bounds w b1 b2 q1 e (by omega) (by omega)
  exact ⟨b1, b2, x, ⟨s.2, e.symm.trans (Int.mul_comm _ _)⟩, y, z⟩
theorem sig_stp {n r : Int} {s : Int × Int} (w : Wh n r) (h : Red n r s) : sig n (stp n r s) = ((stp n r s).1, s.2) := by
  have e := stp_mul (r := r) h.dv
  have h2 := (h.stp w).q1
  unfold sig
  refine Prod.ext rfl ?_
  show (n - (stp n r s).1 * (stp n r s).1) / (stp n r s).2 = s.2
  rw [← e]
  exact Int.mul_ediv_cancel _ (by omega)
theorem quo_sig_stp {n r : Int} {s : Int × Int} (w : Wh n r) (h : Red n r s) : quo r (sig n (stp n r s)) = quo r s := by
  rw [sig_stp w h]
  show (r + (quo r s * s.2 - s.1)) / s.2 = quo r s
  have e : r + (quo r s * s.2 - s.1) = (r - s.1) + quo r s * s.2 := by omega
  have q1 := h.q1
  have pr := h.pr
  have lo := h.lo
  rw [e, Int.add_mul_ediv_right _ _ (by omega), Int.ediv_eq_zero_of_lt (by omega) lo]
  omega
theorem stp_sig_stp {n r : Int} {s : Int × Int} (w : Wh n r) (h : Red n r s) : stp n r (sig n (stp n r s)) = sig n s := by
  have e := quo_sig_stp w h
  have e2 := sig_stp w h
  have e3 : (stp n r (sig n (stp n r s))).1 = s.1 := by
    show quo r (sig n (stp n r s)) * (sig n (stp n r s)).2 - (sig n (stp n r s)).1 = s.1
    rw [e, e2]
    show quo r s * s.2 - (quo r s * s.2 - s.1) = s.1
    omega
  refine Prod.ext e3 ?_
  show (n - (stp n r (sig n (stp n r s))).1 * (stp n r (sig n (stp n r s))).1) / (sig n (stp n r s)).2 = _
  rw [e3, e2]
  rfl
theorem stp_inj {n r : Int} {s t : Int × Int} (w : Wh n r) (hs : Red n r s) (ht : Red n r t) (e : stp n r s = stp n r t) : s = t := by
  have e1 : sig n s = sig n t := by rw [← stp_sig_stp w hs, ← stp_sig_stp w ht, e]
  rw [← sig_sig w hs, ← sig_sig w ht, e1]
/-! The row of states. -/
def st (n r : Int) : Nat → Int × Int
  | 0 => (0, 1)
  | i + 1 => stp n r (st n r i)
theorem st_one (n r : Int) : st n r 1 = (r, n - r * r) := by
  show stp n r (0, 1) = _
  unfold stp quo
  simp
theorem red_one {n r : Int} (w : Wh n r) : Red n r (st n r 1) := by
  rw [st_one]
  have a := w.pos
  have b := w.lo
  have c := w.hi
  have e : (r + 1) * (r + 1) = r * r + 2 * r + 1 := by grind
  exact ⟨a, Int.le_refl _, by show 1 ≤ n - r * r; omega, Int.dvd_refl _, by show r - r < n - r * r; omega, by show n - r * r ≤ r + r; omega⟩
theorem red {n r : Int} (w : Wh n r) : ∀ i, 1 ≤ i → Red n r (st n r i)
  | 0, h => absurd h (by decide)
  | 1, _ => red_one w
  | i + 2, _ => (red w (i + 1) (by omega)).stp w
theorem red_end {n r : Int} (w : Wh n r) : Red n r (r, 1) :=
  ⟨w.pos, Int.le_refl _, Int.le_refl 1, Int.one_dvd _, by show r - r < 1; omega, by have := w.pos; show 1 ≤ r + r; omega⟩
theorem stp_end {n r : Int} (w : Wh n r) : stp n r (r, 1) = st n r 1 := by
  rw [st_one]
  have e : quo r (r, 1) = 2 * r := by unfold quo; simp; omega
  refine Prod.ext ?_ ?_
  · show quo r (r, 1) * 1 - r = r
    rw [e]; omega
  · show (n - (quo r (r, 1) * 1 - r) * (quo r (r, 1) * 1 - r)) / 1 = n - r * r
    rw [e, Int.ediv_one, show 2 * r * 1 - r = r by omega]
/-- states from the first one on never meet but by coming again -/
theorem st_back {n r : Int} (w : Wh n r) : ∀ i d, st n r (i + 1) = st n r (i + 1 + d) → st n r 1 = st n r (1 + d)
  | 0, d, h => by simpa using h
  | i + 1, d, h => by
    refine st_back w i d (stp_inj w (red w _ (by omega)) (red w _ (by omega)) ?_)
    have e : i + 1 + 1 + d = i + 1 + d + 1 := by omega
    rw [e] at h
    exact h
theorem pigeon : ∀ (M : Nat) (f : Nat → Nat), (∀ i, i ≤ M → f i < M) → ∃ i j, i < j ∧ j ≤ M ∧ f i = f j
  | 0, f, h => absurd (h 0 (Nat.le_refl _)) (by omega)
  | M + 1, f, h => by
    by_cases hx : ∃ i, i ≤ M ∧ f i = f (M + 1)
    · obtain ⟨i, hi, e⟩ := hx
      exact ⟨i, M + 1, by omega, Nat.le_refl _, e⟩
    · -- drop the last one's value
      have hne : ∀ i, i ≤ M → f i ≠ f (M + 1) := fun i hi e => hx ⟨i, hi, e⟩
      have hl := h (M + 1) (Nat.le_refl _)
      obtain ⟨i, j, hij, hj, e⟩ := pigeon M (fun i => if f (M + 1) < f i then f i - 1 else f i) (fun i hi => by
        have h1 := h i (by omega)
        have h2 := hne i hi
        show (if f (M + 1) < f i then f i - 1 else f i) < M
        split <;> omega)
      have h1 := hne i (by omega)
      have h2 := hne j hj
      refine ⟨i, j, hij, by omega, ?_⟩
      have e' : (if f (M + 1) < f i then f i - 1 else f i) = (if f (M + 1) < f j then f j - 1 else f j) := e
      split at e' <;> split at e' <;> omega
/-- the first one comes again, within so many -/
theorem again {n r : Int} (w : Wh n r) : ∃ m : Nat, 1 ≤ m ∧ m ≤ (r.toNat + 1) * (2 * r.toNat + 1) ∧ st n r (m + 1) = st n r 1 := by
  have hr := w.pos
  let code : Nat → Nat := fun i => (st n r (i + 1)).1.toNat * (2 * r.toNat + 1) + (st n r (i + 1)).2.toNat
  have hb : ∀ i, (st n r (i + 1)).1.toNat ≤ r.toNat ∧ (st n r (i + 1)).2.toNat ≤ 2 * r.toNat := fun i => by
    have h := red w (i + 1) (by omega)
    have a := h.p1; have b := h.pr; have c := h.q1; have d := h.hi
    omega
  obtain ⟨i, j, hij, hj, e⟩ := pigeon ((r.toNat + 1) * (2 * r.toNat + 1)) code (fun i _ => by
    obtain ⟨a, b⟩ := hb i
    have h1 : (st n r (i + 1)).1.toNat * (2 * r.toNat + 1) ≤ r.toNat * (2 * r.toNat + 1) := Nat.mul_le_mul_right _ a
    have h2 : (r.toNat + 1) * (2 * r.toNat + 1) = r.toNat * (2 * r.toNat + 1) + (2 * r.toNat + 1) := Nat.succ_mul _ _
    show (st n r (i + 1)).1.toNat * (2 * r.toNat + 1) + (st n r (i + 1)).2.toNat < _
    omega)
  have ee : st n r (i + 1) = st n r (j + 1) := by
    obtain ⟨a, b⟩ := hb i
    obtain ⟨c, d⟩ := hb j
    have hi := red w (i + 1) (by omega)
    have hj := red w (j + 1) (by omega)
    have e' : (st n r (i + 1)).1.toNat * (2 * r.toNat + 1) + (st n r (i + 1)).2.toNat = (st n r (j + 1)).1.toNat * (2 * r.toNat + 1) + (st n r (j + 1)).2.toNat := e
    have e1 : (st n r (i + 1)).2.toNat = (st n r (j + 1)).2.toNat := by
      have := congrArg (· % (2 * r.toNat + 1)) e'
      simp only [Nat.mul_add_mod_self_right] at this
      rw [Nat.mod_eq_of_lt (by omega), Nat.mod_eq_of_lt (by omega)] at this
      exact this
    have e2 : (st n r (i + 1)).1.toNat = (st n r (j + 1)).1.toNat := by
      rw [e1] at e'
      have := Nat.add_right_cancel e'
      exact Nat.eq_of_mul_eq_mul_right (by omega) this
    have a1 := hi.p1; have a2 := hj.p1; have a3 := hi.q1; have a4 := hj.q1
    exact Prod.ext (by omega) (by omega)
  refine ⟨j - i, by omega, by omega, ?_⟩
  have := st_back w i (j - i) (by rw [show i + 1 + (j - i) = j + 1 by omega]; exact ee)
  rw [show j - i + 1 = 1 + (j - i) by omega]
  exact this.symm
theorem least {p : Nat → Prop} : ∀ k, p k → ∃ m, m ≤ k ∧ p m ∧ ∀ j, j < m → ¬ p j := by
  intro k
  induction k using Nat.strongRecOn with
  | _ k ih =>
    intro h
    by_cases hx : ∃ j, j < k ∧ p j
    · obtain ⟨j, hj, pj⟩ := hx
      obtain ⟨m, hm, pm, h2⟩ := ih j hj pj
      exact ⟨m, by omega, pm, h2⟩
    · exact ⟨k, Nat.le_refl _, h, fun j hj pj => hx ⟨j, hj, pj⟩⟩
/-- the round's size -/
structure Rnd (n r : Int) (m : Nat) : Prop where
  pos : 1 ≤ m
  top : m ≤ (r.toNat + 1) * (2 * r.toNat + 1)
  ret : st n r (m + 1) = st n r 1
  fst : ∀ k, 1 ≤ k → k < m → st n r (k + 1) ≠ st n r 1
theorem round_ex {n r : Int} (w : Wh n r) : ∃ m, Rnd n r m := by
  obtain ⟨k, h1, h2, h3⟩ := again w
  obtain ⟨m, hm, ⟨a, b⟩, c⟩ := least (p := fun m => 1 ≤ m ∧ st n r (m + 1) = st n r 1) k ⟨h1, h3⟩
  exact ⟨m, a, by omega, b, fun j j1 jm e => c j jm ⟨j1, e⟩⟩
theorem Rnd.per {n r : Int} {m : Nat} (R : Rnd n r m) : ∀ i, 1 ≤ i → st n r (i + m) = st n r i
  | 0, h => absurd h (by decide)
  | 1, _ => by rw [Nat.add_comm]; exact R.ret
  | i + 2, _ => by
    have := R.per (i + 1) (by omega)
    rw [show i + 2 + m = i + 1 + m + 1 by omega]
    show stp n r (st n r (i + 1 + m)) = stp n r (st n r (i + 1))
    rw [this]
theorem Rnd.perk {n r : Int} {m : Nat} (R : Rnd n r m) : ∀ k i, 1 ≤ i → st n r (i + k * m) = st n r i
  | 0, i, h => by rw [Nat.zero_mul]; rfl
  | k + 1, i, h => by
    rw [Nat.succ_mul, ← Nat.add_assoc, R.per (i + k * m) (by omega)]
    exact R.perk k i h
theorem Rnd.mod {n r : Int} {m : Nat} (R : Rnd n r m) (i : Nat) : st n r (i + 1) = st n r (i % m + 1) := by
  have h := R.perk (i / m) (i % m + 1) (by omega)
  rw [← h]
  congr 1
  have := Nat.mod_add_div i m
  rw [Nat.mul_comm] at this
  omega
/-- just the states behind whole rounds are the first one -/
theorem Rnd.iff {n r : Int} {m : Nat} (R : Rnd n r m) (i : Nat) : st n r (i + 1) = st n r 1 ↔ i % m = 0 := by
  have h0 := R.pos
  rw [R.mod i]
  constructor
  · intro e
    by_cases h : i % m = 0
    · exact h
    · exact absurd e (R.fst _ (by omega) (Nat.mod_lt _ (by omega)))
  · intro e
    rw [e]
/-- just the states ahead of those have Q = 1 -/
theorem last_iff {n r : Int} (w : Wh n r) {s : Int × Int} (h : Red n r s) : s.2 = 1 ↔ stp n r s = st n r 1 := by
  constructor
  · intro e
    have a := h.pr; have b := h.lo
    have : s = (r, 1) := Prod.ext (by show s.1 = r; omega) e
    rw [this]
    exact stp_end w
  · intro e
    have := stp_inj w h (red_end w) (e.trans (stp_end w).symm)
    rw [this]
theorem quo_last {n r : Int} (w : Wh n r) {s : Int × Int} (h : Red n r s) : quo r s = 2 * r ↔ s.2 = 1 := by
  have a := h.pr; have b := h.lo; have c := h.q1; have d := h.p1; have e := w.pos
  constructor
  · intro q
    by_cases z : s.2 = 1
    · exact z
    · have h1 := (quo_spec (r := r) h.q1).1
      rw [q] at h1
      have : 2 * r * 2 ≤ 2 * r * s.2 := Int.mul_le_mul_of_nonneg_left (by omega) (by omega)
      omega
  · intro z
    unfold quo
    rw [z, Int.ediv_one]
    omega
theorem Rnd.one_iff {n r : Int} {m : Nat} (w : Wh n r) (R : Rnd n r m) (i : Nat) : (st n r i).2 = 1 ↔ i % m = 0 := by
  have h0 := R.pos
  cases i with
  | zero => simp [st]
  | succ i =>
    rw [last_iff w (red w (i + 1) (by omega))]
    show st n r (i + 1 + 1) = st n r 1 ↔ _
    exact R.iff (i + 1)
theorem Rnd.end {n r : Int} {m : Nat} (w : Wh n r) (R : Rnd n r m) : st n r m = (r, 1) := by
  have h0 := R.pos
  have h := red w m h0
  have e := (R.one_iff w m).mpr (Nat.mod_self m)
  have a := h.pr; have b := h.lo
  exact Prod.ext (by show _ = r; omega) e
/-- the same from either end -/
theorem Rnd.mirror {n r : Int} {m : Nat} (w : Wh n r) (R : Rnd n r m) : ∀ i, i < m → sig n (st n r (i + 1)) = st n r (m - i)
  | 0, h => by
    rw [Nat.sub_zero, R.end w, st_one]
    have := w.lo
    refine Prod.ext rfl ?_
    show (n - r * r) / (n - r * r) = 1
    exact Int.ediv_self (by omega)
  | i + 1, h => by
    have ih := R.mirror w i (by omega)
    have hr := red w (i + 1) (by omega)
    have e := stp_sig_stp w hr
    rw [ih] at e
    refine stp_inj w ((red w (i + 2) (by omega)).sig w) (red w _ (by omega)) ?_
    show stp n r (sig n (stp n r (st n r (i + 1)))) = _
    rw [e]
    show st n r (m - i) = st n r (m - (i + 1) + 1)
    congr 1
    omega
theorem Rnd.quo_mirror {n r : Int} {m : Nat} (w : Wh n r) (R : Rnd n r m) {i : Nat} (h : i + 1 < m) : quo r (st n r (i + 1)) = quo r (st n r (m - (i + 1))) := by
  rw [← R.mirror w (i + 1) h]
  exact (quo_sig_stp w (red w (i + 1) (by omega))).symm
theorem Rnd.quo_end {n r : Int} {m : Nat} (w : Wh n r) (R : Rnd n r m) : quo r (st n r m) = 2 * r := (quo_last w (red w m R.pos)).mpr (by rw [R.end w])
/-- the last one alone is twice the root -/
theorem Rnd.quo_in {n r : Int} {m : Nat} (w : Wh n r) (R : Rnd n r m) {i : Nat} (h : i + 1 < m) : quo r (st n r (i + 1)) ≠ 2 * r := fun e => by
  have h1 := (quo_last w (red w (i + 1) (by omega))).mp e
  rw [R.one_iff w (i + 1), Nat.mod_eq_of_lt h] at h1
  omega
end Lad
set_option linter.all false
namespace Lad
/-! The fractions of the ladder: cv 0 = (0, 1), cv 1 = (1, 0), the first fraction is cv 2. -/
def qt (n r : Int) (i : Nat) : Int := quo r (st n r i)
def cv (n r : Int) : Nat → Int × Int
  | 0 => (0, 1)
  | 1 => (1, 0)
  | i + 2 => (qt n r i * (cv n r (i + 1)).1 + (cv n r i).1, qt n r i * (cv n r (i + 1)).2 + (cv n r i).2)
def sg : Nat → Int
  | 0 => 1
  | i + 1 => - sg i
theorem sg_sq : ∀ i, sg i * sg i = 1
  | 0 => rfl
  | i + 1 => by
    have := sg_sq i
    show -sg i * -sg i = 1
    grind
theorem sg_or : ∀ i, (sg i = 1 ∧ i % 2 = 0) ∨ (sg i = -1 ∧ i % 2 = 1)
  | 0 => .inl ⟨rfl, rfl⟩
  | i + 1 => by
    rcases sg_or i with ⟨a, b⟩ | ⟨a, b⟩
    · exact .inr ⟨by show -sg i = -1; omega, by omega⟩
    · exact .inl ⟨by show -sg i = 1; omega, by omega⟩
def pt (n r : Int) : Nat → Int
  | 0 => n
  | i + 1 => (st n r i).2
/-- two fractions one behind the other, with what there is -/
structure Fr (n x y u v P Q W e : Int) : Prop where
  nn : n = P * P + Q * W
  e1 : x * x - n * (y * y) = e * Q
  e2 : u * u - n * (v * v) = -(e * W)
  e3 : x * u - n * (y * v) = -(e * P)
  e4 : x * v - u * y = e
  e5 : e * e = 1
theorem Fr.next {n x y u v P Q W e q R : Int} (f : Fr n x y u v P Q W e) (h0 : 1 ≤ Q) (h : Q * R = n - (q * Q - P) * (q * Q - P)) : Fr n (q * x + u) (q * y + v) x y (q * Q - P) R Q (-e) := by
  obtain ⟨nn, e1, e2, e3, e4, e5⟩ := f
  have hr : R = W + 2 * q * P - q * q * Q := by
    have : Q * R = Q * (W + 2 * q * P - q * q * Q) := by rw [h]; grind
    exact Int.eq_of_mul_eq_mul_left (by omega) this
  refine ⟨?_, ?_, ?_, ?_, ?_, ?_⟩
  · rw [hr]; grind
  · rw [hr]; grind
  · grind
  · grind
  · grind
  · grind
theorem st_q {n r : Int} (w : Wh n r) (i : Nat) : 0 ≤ (st n r i).1 ∧ (st n r i).1 ≤ r ∧ 1 ≤ (st n r i).2 ∧ qt n r i * (st n r i).2 ≤ r + (st n r i).1 ∧ r + (st n r i).1 < qt n r i * (st n r i).2 + (st n r i).2 ∧ 1 ≤ qt n r i := by
  cases i with
  | zero =>
    have := w.pos
    have e : qt n r 0 = r := by show (r + 0) / 1 = r; simp
    rw [e]
    show 0 ≤ (0 : Int) ∧ (0 : Int) ≤ r ∧ (1 : Int) ≤ 1 ∧ r * 1 ≤ r + 0 ∧ r + 0 < r * 1 + 1 ∧ 1 ≤ r
    omega
  | succ i =>
    have h := red w (i + 1) (by omega)
    have a := quo_spec (r := r) h.q1
    have b := quo_pos h
    have c := h.p1
    exact ⟨by omega, h.pr, h.q1, a.1, a.2, b⟩
theorem st_dv {n r : Int} (w : Wh n r) (i : Nat) : (st n r i).2 ∣ n - (st n r i).1 * (st n r i).1 := by
  cases i with
  | zero => exact Int.one_dvd _
  | succ i => exact (red w (i + 1) (by omega)).dv
theorem st_two {n r : Int} (w : Wh n r) (i : Nat) : (st n r i).2 * (st n r (i + 1)).2 = n - (qt n r i * (st n r i).2 - (st n r i).1) * (qt n r i * (st n r i).2 - (st n r i).1) := stp_mul (r := r) (st_dv w i)
theorem st_p (n r : Int) (i : Nat) : (st n r (i + 1)).1 = qt n r i * (st n r i).2 - (st n r i).1 := rfl
theorem fr {n r : Int} (w : Wh n r) : ∀ i, Fr n (cv n r (i + 1)).1 (cv n r (i + 1)).2 (cv n r i).1 (cv n r i).2 (st n r i).1 (st n r i).2 (pt n r i) (sg i)
  | 0 => ⟨by show n = 0 * 0 + 1 * n; omega, by show 1 * 1 - n * (0 * 0) = (1 : Int) * 1; omega, by show 0 * 0 - n * (1 * 1) = -(1 * n); omega, by show 1 * 0 - n * (0 * 1) = -(1 * 0); omega, by show (1 : Int) * 1 - 0 * 0 = 1; decide, by decide⟩
  | i + 1 => (fr w i).next (st_q w i).2.2.1 (st_two w i)
/-- what is below is not less than 0, and rises -/
theorem cv_pos {n r : Int} (w : Wh n r) : ∀ i, 1 ≤ (cv n r (i + 1)).1 ∧ 0 ≤ (cv n r (i + 1)).2 ∧ 0 ≤ (cv n r i).1 ∧ 0 ≤ (cv n r i).2
  | 0 => ⟨Int.le_refl 1, Int.le_refl 0, Int.le_refl 0, (by decide : (0 : Int) ≤ 1)⟩
  | i + 1 => by
    obtain ⟨a, b, c, d⟩ := cv_pos w i
    have q := (st_q w i).2.2.2.2.2
    have h1 := Int.mul_le_mul q (Int.le_refl (cv n r (i + 1)).1) (by omega) (by omega)
    have h2 := Int.mul_nonneg (show 0 ≤ qt n r i by omega) b
    refine ⟨?_, ?_, by omega, b⟩
    · show 1 ≤ qt n r i * (cv n r (i + 1)).1 + (cv n r i).1
      omega
    · show 0 ≤ qt n r i * (cv n r (i + 1)).2 + (cv n r i).2
      omega
theorem cv_y1 {n r : Int} (w : Wh n r) : ∀ i, 1 ≤ (cv n r (i + 2)).2
  | 0 => by
    show 1 ≤ qt n r 0 * 0 + 1
    omega
  | i + 1 => by
    have a := cv_y1 w i
    have b := (cv_pos w i).2.1
    have q := (st_q w (i + 1)).2.2.2.2.2
    have h1 := Int.mul_le_mul q (Int.le_refl (cv n r (i + 2)).2) (by omega) (by omega)
    show 1 ≤ qt n r (i + 1) * (cv n r (i + 2)).2 + (cv n r (i + 1)).2
    omega
theorem cv_up {n r : Int} (w : Wh n r) (i : Nat) : (cv n r (i + 2)).2 ≤ (cv n r (i + 3)).2 ∧ (1 ≤ i → (cv n r (i + 2)).2 < (cv n r (i + 3)).2) := by
  have a := cv_y1 w i
  have b := (cv_pos w i).2.1
  have q := (st_q w (i + 1)).2.2.2.2.2
  have h1 := Int.mul_le_mul q (Int.le_refl (cv n r (i + 2)).2) (by omega) (by omega)
  have e : (cv n r (i + 3)).2 = qt n r (i + 1) * (cv n r (i + 2)).2 + (cv n r (i + 1)).2 := rfl
  refine ⟨by omega, fun h => ?_⟩
  obtain ⟨j, rfl⟩ : ∃ j, i = j + 1 := ⟨i - 1, by omega⟩
  have c := cv_y1 w j
  have c' : 1 ≤ (cv n r (j + 1 + 1)).2 := c
  omega
theorem cv_mono {n r : Int} (w : Wh n r) (i : Nat) : ∀ d, (cv n r (i + 2)).2 ≤ (cv n r (i + d + 2)).2
  | 0 => Int.le_refl _
  | d + 1 => Int.le_trans (cv_mono w i d) (cv_up w (i + d)).1
theorem cv_lt {n r : Int} (w : Wh n r) {i j : Nat} (h1 : 1 ≤ i) (h : i < j) : (cv n r (i + 2)).2 < (cv n r (j + 2)).2 := by
  have a := (cv_up w i).2 h1
  have b := cv_mono w (i + 1) (j - (i + 1))
  rw [show i + 1 + (j - (i + 1)) + 2 = j + 2 by omega] at b
  exact Int.lt_of_lt_of_le a b
/-- what lies between two fractions of a side has a great worth -/
theorem between {n r P Q W q A B D : Int} (w : Wh n r) (p0 : 0 ≤ P) (pr : P ≤ r) (q1 : 1 ≤ Q) (nn : n = P * P + Q * W) (hq : q * Q ≤ r + P) (hA : 1 ≤ A) (hB : 1 ≤ B) (hBA : B < q * A) (hD : D = Q * (B * B) - 2 * P * (A * B) - W * (A * A)) : n < D * D := by
  have lo := w.lo
  have hi := w.hi
  have hr := w.pos
  have t1 : Q * B - P * A ≤ r * A - Q := by
    have h1 : Q * B ≤ Q * (q * A - 1) := Int.mul_le_mul_of_nonneg_left (by omega) (by omega)
    have h2 : q * Q * A ≤ (r + P) * A := Int.mul_le_mul_of_nonneg_right hq (by omega)
    have h3 : Q * (q * A - 1) = q * Q * A - Q := by grind
    have h4 : (r + P) * A = r * A + P * A := by grind
    omega
  have t2 : -(r * A - Q) ≤ Q * B - P * A := by
    have h1 : Q * 1 ≤ Q * B := Int.mul_le_mul_of_nonneg_left hB (by omega)
    have h2 : P * A ≤ r * A := Int.mul_le_mul_of_nonneg_right pr (by omega)
    omega
  have t3 : (Q * B - P * A) * (Q * B - P * A) ≤ (r * A - Q) * (r * A - Q) := by
    have h := Int.mul_nonneg (show 0 ≤ (r * A - Q) - (Q * B - P * A) by omega) (show 0 ≤ (r * A - Q) + (Q * B - P * A) by omega)
    have e : (r * A - Q - (Q * B - P * A)) * (r * A - Q + (Q * B - P * A)) = (r * A - Q) * (r * A - Q) - (Q * B - P * A) * (Q * B - P * A) := by grind
    omega
  have e1 : Q * D = (Q * B - P * A) * (Q * B - P * A) - n * (A * A) := by rw [hD, nn]; grind
  have e2 : (r * A - Q) * (r * A - Q) = r * r * (A * A) - Q * (2 * (r * A) - Q) := by grind
  have h5 : (n - r * r) * (A * A) = n * (A * A) - r * r * (A * A) := by grind
  have h6 : 1 ≤ A * A := by
    have := Int.mul_le_mul hA hA (by omega) (by omega)
    omega
  have h7 : 0 < (n - r * r) * (A * A) := Int.mul_pos (by omega) (by omega)
  have h8 : r * 1 ≤ r * A := Int.mul_le_mul_of_nonneg_left hA (by omega)
  have h9 : Q * r ≤ Q * (2 * (r * A) - Q) := Int.mul_le_mul_of_nonneg_left (by omega) (by omega)
  have h10 : Q * D < Q * (-r) := by
    have : Q * (-r) = -(Q * r) := by grind
    omega
  have h11 : D < -r := Int.lt_of_mul_lt_mul_left h10 (by omega)
  have h12 := Int.mul_le_mul (show r + 1 ≤ -D by omega) (show r + 1 ≤ -D by omega) (by omega) (by omega)
  have h13 : -D * -D = D * D := by grind
  omega
theorem nform {n x y u v P Q W e A B : Int} (e1 : x * x - n * (y * y) = e * Q) (e2 : u * u - n * (v * v) = -(e * W)) (e3 : x * u - n * (y * v) = -(e * P)) :
    (B * x + A * u) * (B * x + A * u) - n * ((B * y + A * v) * (B * y + A * v)) = e * (Q * (B * B) - 2 * P * (A * B) - W * (A * A)) := by
  have h : (B * x + A * u) * (B * x + A * u) - n * ((B * y + A * v) * (B * y + A * v)) = B * B * (x * x - n * (y * y)) + 2 * (A * B) * (x * u - n * (y * v)) + A * A * (u * u - n * (v * v)) := by grind
  rw [h, e1, e2, e3]
  grind
theorem sq_e {e D : Int} (h : e * e = 1) : e * D * (e * D) = D * D := by
  have : e * D * (e * D) = e * e * (D * D) := by grind
  rw [this, h, Int.one_mul]
/-- a pair whose worth's square is less than n is a whole number times a fraction -/
theorem lag_at {n r : Int} (w : Wh n r) {x y c : Int} (hc : x * x - n * (y * y) = c) (hcc : c * c < n) : ∀ (N i : Nat) (A B : Int), 1 ≤ A → 1 ≤ B → A + B ≤ (N : Int) →
    x = B * (cv n r (i + 1)).1 + A * (cv n r i).1 → y = B * (cv n r (i + 1)).2 + A * (cv n r i).2 → ∃ (j : Nat) (k : Int), 1 ≤ k ∧ x = k * (cv n r (j + 2)).1 ∧ y = k * (cv n r (j + 2)).2
  | 0, i, A, B, hA, hB, hN, _, _ => absurd hN (by omega)
  | N + 1, i, A, B, hA, hB, hN, ex, ey => by
    obtain ⟨p0, pr, q1, hq, _, hq1⟩ := st_q w i
    have f := fr w i
    have e1 : (cv n r (i + 2)).1 = qt n r i * (cv n r (i + 1)).1 + (cv n r i).1 := rfl
    have e2 : (cv n r (i + 2)).2 = qt n r i * (cv n r (i + 1)).2 + (cv n r i).2 := rfl
    by_cases h1 : B < qt n r i * A
    · have g := between (D := (st n r i).2 * (B * B) - 2 * (st n r i).1 * (A * B) - pt n r i * (A * A)) w p0 pr q1 f.nn hq hA hB h1 rfl
      have e : c = sg i * ((st n r i).2 * (B * B) - 2 * (st n r i).1 * (A * B) - pt n r i * (A * A)) := by
        rw [← hc, ex, ey]
        exact nform f.e1 f.e2 f.e3
      have e5 := sg_sq i
      have : c * c = ((st n r i).2 * (B * B) - 2 * (st n r i).1 * (A * B) - pt n r i * (A * A)) * ((st n r i).2 * (B * B) - 2 * (st n r i).1 * (A * B) - pt n r i * (A * A)) := by
        rw [e]; exact sq_e e5
      omega
    · by_cases h2 : B = qt n r i * A
      · refine ⟨i, A, hA, ?_, ?_⟩
        · rw [ex, e1, h2]; grind
        · rw [ey, e2, h2]; grind
      · have hq2 : 1 * A ≤ qt n r i * A := Int.mul_le_mul_of_nonneg_right hq1 (by omega)
        refine lag_at w hc hcc N (i + 1) (B - qt n r i * A) A (by omega) hA (by omega) ?_ ?_
        · rw [ex]
          show _ = A * (cv n r (i + 2)).1 + _
          rw [e1]; grind
        · rw [ey]
          show _ = A * (cv n r (i + 2)).2 + _
          rw [e2]; grind
theorem two_le {n r : Int} (w : Wh n r) : 2 ≤ n := by
  have a := w.lo; have b := w.pos
  have := Int.mul_le_mul b b (by omega) (by omega)
  omega
theorem lag {n r : Int} (w : Wh n r) {x y c : Int} (hx : 0 ≤ x) (hy : 1 ≤ y) (hc : x * x - n * (y * y) = c) (hcc : c * c < n) : ∃ (j : Nat) (k : Int), 1 ≤ k ∧ x = k * (cv n r (j + 2)).1 ∧ y = k * (cv n r (j + 2)).2 := by
  by_cases h0 : x = 0
  · have h2 := two_le w
    have h1 := Int.mul_le_mul hy hy (by omega) (by omega)
    have h3 : n * 1 ≤ n * (y * y) := Int.mul_le_mul_of_nonneg_left (by omega) (by omega)
    have h4 : c = -(n * (y * y)) := by rw [← hc, h0]; omega
    have h5 := Int.mul_le_mul (show n ≤ n * (y * y) by omega) (show n ≤ n * (y * y) by omega) (by omega) (by omega)
    have h6 : c * c = n * (y * y) * (n * (y * y)) := by rw [h4]; grind
    have h7 : n * 2 ≤ n * n := Int.mul_le_mul_of_nonneg_left h2 (by omega)
    omega
  · refine lag_at w hc hcc (y + x).toNat 0 y x hy (by omega) (by omega) ?_ ?_
    · show x = x * 1 + y * 0
      omega
    · show y = x * 0 + y * 1
      omega
/-- the worth of a fraction -/
theorem cv_worth {n r : Int} (w : Wh n r) (i : Nat) : (cv n r (i + 1)).1 * (cv n r (i + 1)).1 - n * ((cv n r (i + 1)).2 * (cv n r (i + 1)).2) = sg i * (st n r i).2 := (fr w i).e1
/-! products -/
def mul (n : Int) (p q : Int × Int) : Int × Int := (p.1 * q.1 + n * (p.2 * q.2), p.1 * q.2 + p.2 * q.1)
theorem qt_per {n r : Int} {m : Nat} (R : Rnd n r m) (i : Nat) : qt n r (i + 1 + m) = qt n r (i + 1) := by
  unfold qt
  rw [R.per (i + 1) (by omega)]
theorem solve {n x y u v e r : Int} (e1 : x * x - n * (y * y) = e * 1) (e3 : x * u - n * (y * v) = -(e * r)) (e4 : x * v - u * y = e) (e5 : e * e = 1) : u = n * y - r * x ∧ v = x - r * y := by
  have a : u * (x * x - n * (y * y)) = x * (x * u - n * (y * v)) + n * (y * (x * v - u * y)) := by grind
  have b : v * (x * x - n * (y * y)) = x * (x * v - u * y) + y * (x * u - n * (y * v)) := by grind
  rw [e1, e3, e4] at a b
  have a2 : e * e * u = e * e * (n * y - r * x) := by
    have : e * (u * (e * 1)) = e * (x * -(e * r) + n * (y * e)) := by rw [a]
    grind
  have b2 : e * e * v = e * e * (x - r * y) := by
    have : e * (v * (e * 1)) = e * (x * e + y * -(e * r)) := by rw [b]
    grind
  rw [e5, Int.one_mul, Int.one_mul] at a2 b2
  exact ⟨a2, b2⟩
theorem cv_round {n r : Int} {m : Nat} (w : Wh n r) (R : Rnd n r m) : ∀ i, cv n r (i + 1 + m) = mul n (cv n r (m + 1)) (cv n r (i + 1)) ∧ cv n r (i + 2 + m) = mul n (cv n r (m + 1)) (cv n r (i + 2))
  | 0 => by
    constructor
    · rw [show 0 + 1 + m = m + 1 by omega]
      unfold mul
      refine Prod.ext ?_ ?_
      · show _ = (cv n r (m + 1)).1 * 1 + n * ((cv n r (m + 1)).2 * 0)
        omega
      · show _ = (cv n r (m + 1)).1 * 0 + (cv n r (m + 1)).2 * 1
        omega
    · rw [show 0 + 2 + m = m + 2 by omega]
      have f := fr w m
      have eS := R.end w
      have q : qt n r m = 2 * r := by unfold qt; exact R.quo_end w
      have q0 : qt n r 0 = r := by show (r + 0) / 1 = r; simp
      obtain ⟨nn, e1, e2, e3, e4, e5⟩ := f
      rw [eS] at e1 e3
      have e1' : (cv n r (m + 1)).1 * (cv n r (m + 1)).1 - n * ((cv n r (m + 1)).2 * (cv n r (m + 1)).2) = sg m * 1 := e1
      have e3' : (cv n r (m + 1)).1 * (cv n r m).1 - n * ((cv n r (m + 1)).2 * (cv n r m).2) = -(sg m * r) := e3
      clear e1 e3
      have g1 : (cv n r (m + 2)).1 = qt n r m * (cv n r (m + 1)).1 + (cv n r m).1 := rfl
      have g2 : (cv n r (m + 2)).2 = qt n r m * (cv n r (m + 1)).2 + (cv n r m).2 := rfl
      have g3 : cv n r (0 + 2) = (qt n r 0 * 1 + 0, qt n r 0 * 0 + 1) := rfl
      rw [q] at g1 g2
      rw [q0] at g3
      rw [g3]
      unfold mul
      generalize (cv n r (m + 1)).1 = x at *
      generalize (cv n r (m + 1)).2 = y at *
      generalize (cv n r m).1 = u at *
      generalize (cv n r m).2 = v at *
      generalize sg m = e at *
      obtain ⟨hu, hv⟩ := solve e1' e3' e4 e5
      refine Prod.ext ?_ ?_
      · rw [g1, hu]
        show _ = x * (r * 1 + 0) + n * (y * (r * 0 + 1))
        grind
      · rw [g2, hv]
        show _ = x * (r * 0 + 1) + y * (r * 1 + 0)
        grind
  | i + 1 => by
    obtain ⟨a, b⟩ := cv_round w R i
    refine ⟨?_, ?_⟩
    · rw [show i + 1 + 1 + m = i + 2 + m by omega]; exact b
    · have q := qt_per R i
      have g : cv n r (i + 1 + 2 + m) = (qt n r (i + 1 + m) * (cv n r (i + 2 + m)).1 + (cv n r (i + 1 + m)).1, qt n r (i + 1 + m) * (cv n r (i + 2 + m)).2 + (cv n r (i + 1 + m)).2) := by
        rw [show i + 1 + 2 + m = (i + 1 + m) + 2 by omega]
        show (qt n r (i + 1 + m) * (cv n r (i + 1 + m + 1)).1 + _, _) = _
        rw [show i + 1 + m + 1 = i + 2 + m by omega]
      have g2 : cv n r (i + 1 + 2) = (qt n r (i + 1) * (cv n r (i + 2)).1 + (cv n r (i + 1)).1, qt n r (i + 1) * (cv n r (i + 2)).2 + (cv n r (i + 1)).2) := rfl
      rw [g, g2, q, a, b]
      unfold mul
      refine Prod.ext ?_ ?_
      · show qt n r (i + 1) * (_ + _) + (_ + _) = _
        grind
      · show qt n r (i + 1) * (_ + _) + (_ + _) = _
        grind
end Lad
set_option linter.all false
namespace Lad
theorem mul_comm' (n : Int) (p q : Int × Int) : mul n p q = mul n q p := by
  unfold mul
  refine Prod.ext ?_ ?_
  · show p.1 * q.1 + n * (p.2 * q.2) = q.1 * p.1 + n * (q.2 * p.2)
    grind
  · show p.1 * q.2 + p.2 * q.1 = q.1 * p.2 + q.2 * p.1
    grind
theorem mul_assoc' (n : Int) (p q s : Int × Int) : mul n (mul n p q) s = mul n p (mul n q s) := by
  unfold mul
  refine Prod.ext ?_ ?_
  · show (p.1 * q.1 + n * (p.2 * q.2)) * s.1 + n * ((p.1 * q.2 + p.2 * q.1) * s.2) = p.1 * (q.1 * s.1 + n * (q.2 * s.2)) + n * (p.2 * (q.1 * s.2 + q.2 * s.1))
    grind
  · show (p.1 * q.1 + n * (p.2 * q.2)) * s.2 + (p.1 * q.2 + p.2 * q.1) * s.1 = p.1 * (q.1 * s.2 + q.2 * s.1) + p.2 * (q.1 * s.1 + n * (q.2 * s.2))
    grind
def wth (n : Int) (p : Int × Int) : Int := p.1 * p.1 - n * (p.2 * p.2)
theorem wth_mul (n : Int) (p q : Int × Int) : wth n (mul n p q) = wth n p * wth n q := by
  unfold wth mul
  show (p.1 * q.1 + n * (p.2 * q.2)) * (p.1 * q.1 + n * (p.2 * q.2)) - n * ((p.1 * q.2 + p.2 * q.1) * (p.1 * q.2 + p.2 * q.1)) = (p.1 * p.1 - n * (p.2 * p.2)) * (q.1 * q.1 - n * (q.2 * q.2))
  grind
theorem cv_rounds {n r : Int} {m : Nat} (w : Wh n r) (R : Rnd n r m) (i : Nat) : ∀ k, cv n r (i + 1 + k * m) = mul n (cv n r (k * m + 1)) (cv n r (i + 1))
  | 0 => by
    rw [Nat.zero_mul]
    unfold mul
    refine Prod.ext ?_ ?_
    · show _ = 1 * (cv n r (i + 1)).1 + n * (0 * (cv n r (i + 1)).2)
      rw [Int.zero_mul, Int.mul_zero, Int.one_mul, Int.add_zero]
    · show _ = 1 * (cv n r (i + 1)).2 + 0 * (cv n r (i + 1)).1
      rw [Int.zero_mul, Int.one_mul, Int.add_zero]
  | k + 1 => by
    have a := cv_rounds w R i k
    have b := (cv_round w R (i + k * m)).1
    have c := (cv_round w R (k * m)).1
    rw [show i + 1 + (k + 1) * m = i + k * m + 1 + m by rw [Nat.succ_mul]; omega, b, show i + k * m + 1 = i + 1 + k * m by omega, a, ← mul_assoc']
    rw [show (k + 1) * m + 1 = k * m + 1 + m by rw [Nat.succ_mul]; omega, c]
/-- a whole number times, one over one -/
theorem unit_of {n r x y c k : Int} {j : Nat} (w : Wh n r) (hk : 1 ≤ k) (hc : c * c = 1) (ex : x = k * (cv n r (j + 2)).1) (ey : y = k * (cv n r (j + 2)).2) (h : x * x - n * (y * y) = c) : k = 1 ∧ (st n r (j + 1)).2 = 1 ∧ sg (j + 1) = c := by
  have q := (st_q w (j + 1)).2.2.1
  have e := cv_worth w (j + 1)
  have s := sg_sq (j + 1)
  have h1 : c = k * k * (sg (j + 1) * (st n r (j + 1)).2) := by
    rw [← h, ex, ey, ← e]
    grind
  have h2 : k * k * (st n r (j + 1)).2 = c * sg (j + 1) := by rw [h1]; grind
  have h3 : c * sg (j + 1) ≤ 1 := by
    have hc2 : c = 1 ∨ c = -1 := by
      have h1 : (c - 1) * (c + 1) = 0 := by grind
      rcases Int.mul_eq_zero.mp h1 with z | z <;> omega
    rcases hc2 with z | z <;> rcases sg_or (j + 1) with ⟨a, _⟩ | ⟨a, _⟩ <;> rw [z, a] <;> decide
  have h4 : 1 * k ≤ k * k := Int.mul_le_mul_of_nonneg_right hk (by omega)
  have h5 : k * k * 1 ≤ k * k * (st n r (j + 1)).2 := Int.mul_le_mul_of_nonneg_left q (by omega)
  have h6 : 1 * (st n r (j + 1)).2 ≤ k * k * (st n r (j + 1)).2 := Int.mul_le_mul_of_nonneg_right (by omega) (by omega)
  have k1 : k = 1 := by omega
  have q1 : (st n r (j + 1)).2 = 1 := by omega
  refine ⟨k1, q1, ?_⟩
  rw [h1, k1, q1]
  omega
/-- each pair with worth 1 or -1 is a fraction at a round's end -/
theorem unit_sol {n r x y c : Int} {m : Nat} (w : Wh n r) (R : Rnd n r m) (hx : 0 ≤ x) (hy : 1 ≤ y) (hc : c * c = 1) (h : x * x - n * (y * y) = c) : ∃ j, (x, y) = cv n r (j + 2) ∧ (j + 1) % m = 0 ∧ sg (j + 1) = c := by
  obtain ⟨j, k, hk, ex, ey⟩ := lag w hx hy h (by have := two_le w; omega)
  obtain ⟨a, b, d⟩ := unit_of w hk hc ex ey h
  refine ⟨j, Prod.ext ?_ ?_, (R.one_iff w (j + 1)).mp b, d⟩
  · show x = _
    rw [ex, a, Int.one_mul]
  · show y = _
    rw [ey, a, Int.one_mul]
theorem end_worth {n r : Int} {m : Nat} (w : Wh n r) (R : Rnd n r m) {i : Nat} (h : i % m = 0) : wth n (cv n r (i + 1)) = sg i := by
  have e := cv_worth w i
  rw [(R.one_iff w i).mpr h, Int.mul_one] at e
  exact e
/-! the least one -/
def lm (m : Nat) : Nat := if m % 2 = 0 then m else 2 * m
theorem lm_pos {m : Nat} (h : 1 ≤ m) : 2 ≤ lm m ∧ lm m % 2 = 0 ∧ lm m % m = 0 := by
  unfold lm
  split
  · refine ⟨by omega, by assumption, Nat.mod_self m⟩
  · refine ⟨by omega, by omega, Nat.mul_mod_left 2 m⟩
theorem lm_dvd {m k : Nat} (h : 1 ≤ m) (h1 : k % m = 0) (h2 : k % 2 = 0) : k % lm m = 0 := by
  unfold lm
  split
  · exact h1
  · rename_i o
    obtain ⟨q, hq⟩ := Nat.dvd_of_mod_eq_zero h1
    have : q % 2 = 0 := by
      have e : k % 2 = (m % 2) * (q % 2) % 2 := by rw [hq, Nat.mul_mod]
      have o2 : m % 2 = 1 := by omega
      rw [o2, h2] at e
      omega
    obtain ⟨t, ht⟩ := Nat.dvd_of_mod_eq_zero this
    rw [hq, ht, show m * (2 * t) = t * (2 * m) by rw [Nat.mul_left_comm, Nat.mul_left_comm t, Nat.mul_comm m]]
    exact Nat.mul_mod_left _ _
theorem sg_even {i : Nat} (h : i % 2 = 0) : sg i = 1 := by
  rcases sg_or i with ⟨a, b⟩ | ⟨a, b⟩
  · exact a
  · omega
theorem sg_odd {i : Nat} (h : i % 2 = 1) : sg i = -1 := by
  rcases sg_or i with ⟨a, b⟩ | ⟨a, b⟩
  · omega
  · exact a
theorem sg_one {i : Nat} (h : sg i = 1) : i % 2 = 0 := by
  rcases sg_or i with ⟨a, b⟩ | ⟨a, b⟩ <;> omega
theorem sg_neg {i : Nat} (h : sg i = -1) : i % 2 = 1 := by
  rcases sg_or i with ⟨a, b⟩ | ⟨a, b⟩ <;> omega
section
variable {n r : Int} {m : Nat}
/-- the k-th pair with worth 1 -/
def one (n r : Int) (m k : Nat) : Int × Int := cv n r (k * lm m + 1)
theorem one_worth (w : Wh n r) (R : Rnd n r m) (k : Nat) : wth n (one n r m k) = 1 := by
  have a := lm_pos R.pos
  have h1 : (k * lm m) % m = 0 := by rw [Nat.mul_mod, a.2.2, Nat.mul_zero, Nat.zero_mod]
  have h2 : (k * lm m) % 2 = 0 := by rw [Nat.mul_mod, a.2.1, Nat.mul_zero]
  unfold one
  rw [end_worth w R h1, sg_even h2]
theorem one_pos (w : Wh n r) (R : Rnd n r m) {k : Nat} (hk : 1 ≤ k) : 1 ≤ (one n r m k).1 ∧ 1 ≤ (one n r m k).2 := by
  have a := lm_pos R.pos
  have b := Nat.mul_le_mul hk a.1
  refine ⟨(cv_pos w _).1, ?_⟩
  unfold one
  rw [show k * lm m + 1 = (k * lm m - 1) + 2 by omega]
  exact cv_y1 w _
theorem one_next (w : Wh n r) (R : Rnd n r m) (k : Nat) : one n r m (k + 1) = mul n (one n r m k) (one n r m 1) := by
  have a := lm_pos R.pos
  obtain ⟨t, ht⟩ := Nat.dvd_of_mod_eq_zero a.2.2
  rw [mul_comm']
  unfold one
  have e := cv_rounds w R (k * lm m) t
  rw [Nat.mul_comm m t] at ht
  rw [← ht] at e
  rw [show (k + 1) * lm m + 1 = k * lm m + 1 + lm m by rw [Nat.succ_mul]; omega, e, Nat.one_mul]
/-- all of them -/
theorem one_all (w : Wh n r) (R : Rnd n r m) {x y : Int} (hx : 0 ≤ x) (hy : 1 ≤ y) (h : x * x - n * (y * y) = 1) : ∃ k, 1 ≤ k ∧ (x, y) = one n r m k := by
  obtain ⟨j, e, h1, h2⟩ := unit_sol w R hx hy (by decide) h
  have d := lm_dvd R.pos h1 (sg_one h2)
  obtain ⟨k, hk⟩ := Nat.dvd_of_mod_eq_zero d
  refine ⟨k, ?_, ?_⟩
  · cases k with
    | zero => rw [Nat.mul_zero] at hk; omega
    | succ k => omega
  · unfold one
    rw [Nat.mul_comm k, ← hk]
    exact e
theorem one_up (w : Wh n r) (R : Rnd n r m) {k : Nat} (hk : 1 ≤ k) : 2 * (one n r m k).2 < (one n r m (k + 1)).2 := by
  have a := one_pos w R hk
  have b := one_pos w R (Nat.le_refl 1)
  have e : (one n r m (k + 1)).2 = (one n r m k).1 * (one n r m 1).2 + (one n r m k).2 * (one n r m 1).1 := by rw [one_next w R k]; rfl
  have c := one_worth w R 1
  have d := two_le w
  have h2 : 2 ≤ (one n r m 1).1 := by
    by_cases z : (one n r m 1).1 ≤ 1
    · have z1 : (one n r m 1).1 = 1 := by omega
      have c' : (one n r m 1).1 * (one n r m 1).1 - n * ((one n r m 1).2 * (one n r m 1).2) = 1 := c
      rw [z1] at c'
      have h := Int.mul_le_mul b.2 b.2 (by omega) (by omega)
      have := Int.mul_le_mul d h (by omega) (by omega)
      omega
    · omega
  have h3 := Int.mul_le_mul a.1 b.2 (by omega) (by omega)
  have h4 : (one n r m k).2 * 2 ≤ (one n r m k).2 * (one n r m 1).1 := Int.mul_le_mul_of_nonneg_left h2 (by omega)
  rw [e]
  omega
theorem one_big (w : Wh n r) (R : Rnd n r m) : ∀ k : Nat, ((2 ^ k : Nat) : Int) ≤ (one n r m (k + 1)).2
  | 0 => (one_pos w R (Nat.le_refl 1)).2
  | k + 1 => by
    have a := one_big w R k
    have b := one_up w R (show 1 ≤ k + 1 by omega)
    rw [Nat.pow_succ]
    omega
/-- none is less than the first -/
theorem one_least (w : Wh n r) (R : Rnd n r m) : ∀ k, 1 ≤ k → (one n r m 1).2 ≤ (one n r m k).2
  | 0, h => absurd h (by decide)
  | 1, _ => Int.le_refl _
  | k + 2, _ => by
    have a := one_least w R (k + 1) (by omega)
    have b := one_up w R (show 1 ≤ k + 1 by omega)
    have c := one_pos w R (show 1 ≤ k + 1 by omega)
    have b' : 2 * (one n r m (k + 1)).2 < (one n r m (k + 2)).2 := b
    omega
theorem least_min (w : Wh n r) (R : Rnd n r m) {x y : Int} (hx : 0 ≤ x) (hy : 1 ≤ y) (h : x * x - n * (y * y) = 1) : (one n r m 1).2 ≤ y := by
  obtain ⟨k, hk, e⟩ := one_all w R hx hy h
  have := one_least w R k hk
  rw [← e] at this
  exact this
/-! worth -1 -/
theorem less_worth (w : Wh n r) (R : Rnd n r m) (h : m % 2 = 1) : wth n (cv n r (m + 1)) = -1 := by
  rw [end_worth w R (Nat.mod_self m), sg_odd h]
theorem less_pos (w : Wh n r) (R : Rnd n r m) : 1 ≤ (cv n r (m + 1)).1 ∧ 1 ≤ (cv n r (m + 1)).2 := by
  have := R.pos
  refine ⟨(cv_pos w _).1, ?_⟩
  rw [show m + 1 = (m - 1) + 2 by omega]
  exact cv_y1 w _
theorem less_sol (w : Wh n r) (R : Rnd n r m) {x y : Int} (hx : 0 ≤ x) (hy : 1 ≤ y) (h : x * x - n * (y * y) = -1) : m % 2 = 1 ∧ (cv n r (m + 1)).2 ≤ y := by
  obtain ⟨j, e, h1, h2⟩ := unit_sol w R hx hy (by decide) h
  have o := sg_neg h2
  obtain ⟨q, hq⟩ := Nat.dvd_of_mod_eq_zero h1
  have hm := R.pos
  have q1 : 1 ≤ q := by
    cases q with
    | zero => rw [Nat.mul_zero] at hq; omega
    | succ q => omega
  have hmj : m ≤ j + 1 := by
    rw [hq]
    exact Nat.le_mul_of_pos_right m q1
  constructor
  · by_cases z : m % 2 = 1
    · exact z
    · have : (m * q) % 2 = 0 := by rw [Nat.mul_mod, show m % 2 = 0 by omega, Nat.zero_mul]
      omega
  · have b := cv_mono w (m - 1) (j + 1 - m)
    rw [show m - 1 + 2 = m + 1 by omega, show m - 1 + (j + 1 - m) + 2 = j + 2 by omega, ← e] at b
    exact b
theorem less_sq (w : Wh n r) (R : Rnd n r m) (h : m % 2 = 1) : mul n (cv n r (m + 1)) (cv n r (m + 1)) = one n r m 1 := by
  unfold one lm
  rw [if_neg (by omega), Nat.one_mul, show 2 * m + 1 = m + 1 + m by omega]
  exact (cv_round w R m).1.symm
end
end Lad
set_option linter.all false
namespace Lad
/-! Which side of the root: X over Y. -/
structure Gt (n X Y : Int) : Prop where
  x0 : 0 ≤ X
  y0 : 0 ≤ Y
  gt : n * (Y * Y) < X * X
structure Lt (n X Y : Int) : Prop where
  x0 : 0 ≤ X
  y0 : 0 ≤ Y
  lt : X * X < n * (Y * Y)
theorem sq_lt {a b : Int} (hb : 0 ≤ b) (h : a * a < b * b) : a < b := by
  by_cases z : b ≤ a
  · have := Int.mul_le_mul z z hb (by omega)
    omega
  · omega
theorem lt_sq {a b : Int} (ha : 0 ≤ a) (h : a < b) : a * a < b * b := by
  have h1 : a * a ≤ a * b := Int.mul_le_mul_of_nonneg_left (by omega) ha
  have h2 : a * b < b * b := Int.mul_lt_mul_of_pos_right h (by omega)
  omega
theorem Gt.add {n X Y A B : Int} (h0 : 0 ≤ n) (g : Gt n X Y) (h : Gt n A B) : Gt n (X + A) (Y + B) := by
  obtain ⟨a1, a2, a3⟩ := g
  obtain ⟨b1, b2, b3⟩ := h
  refine ⟨by omega, by omega, ?_⟩
  have p1 : n * (Y * Y) * (n * (B * B)) ≤ X * X * (A * A) := Int.mul_le_mul (by omega) (by omega) (Int.mul_nonneg h0 (Int.mul_nonneg b2 b2)) (Int.mul_nonneg a1 a1)
  have e1 : n * (Y * Y) * (n * (B * B)) = (n * (Y * B)) * (n * (Y * B)) := by grind
  have e2 : X * X * (A * A) = (X * A) * (X * A) := by grind
  have p2 : n * (Y * B) ≤ X * A := by
    by_cases z : n * (Y * B) ≤ X * A
    · exact z
    · have := lt_sq (Int.mul_nonneg a1 b1) (show X * A < n * (Y * B) by omega)
      omega
  have e3 : (X + A) * (X + A) = X * X + 2 * (X * A) + A * A := by grind
  have e4 : n * ((Y + B) * (Y + B)) = n * (Y * Y) + 2 * (n * (Y * B)) + n * (B * B) := by grind
  omega
theorem Lt.add {n X Y A B : Int} (h0 : 0 ≤ n) (g : Lt n X Y) (h : Lt n A B) : Lt n (X + A) (Y + B) := by
  obtain ⟨a1, a2, a3⟩ := g
  obtain ⟨b1, b2, b3⟩ := h
  refine ⟨by omega, by omega, ?_⟩
  have p1 : X * X * (A * A) ≤ n * (Y * Y) * (n * (B * B)) := Int.mul_le_mul (by omega) (by omega) (Int.mul_nonneg b1 b1) (Int.mul_nonneg h0 (Int.mul_nonneg a2 a2))
  have e1 : n * (Y * Y) * (n * (B * B)) = (n * (Y * B)) * (n * (Y * B)) := by grind
  have e2 : X * X * (A * A) = (X * A) * (X * A) := by grind
  have p2 : X * A ≤ n * (Y * B) := by
    by_cases z : X * A ≤ n * (Y * B)
    · exact z
    · have := lt_sq (Int.mul_nonneg h0 (Int.mul_nonneg a2 b2)) (show n * (Y * B) < X * A by omega)
      omega
  have e3 : (X + A) * (X + A) = X * X + 2 * (X * A) + A * A := by grind
  have e4 : n * ((Y + B) * (Y + B)) = n * (Y * Y) + 2 * (n * (Y * B)) + n * (B * B) := by grind
  omega
theorem Gt.smul {n X Y k : Int} (hk : 1 ≤ k) (g : Gt n X Y) : Gt n (k * X) (k * Y) := by
  refine ⟨Int.mul_nonneg (by omega) g.x0, Int.mul_nonneg (by omega) g.y0, ?_⟩
  have h1 : 0 < k * k := Int.mul_pos (by omega) (by omega)
  have h2 := Int.mul_lt_mul_of_pos_left g.gt h1
  have e1 : k * X * (k * X) = k * k * (X * X) := by grind
  have e2 : n * (k * Y * (k * Y)) = k * k * (n * (Y * Y)) := by grind
  omega
theorem Lt.smul {n X Y k : Int} (hk : 1 ≤ k) (g : Lt n X Y) : Lt n (k * X) (k * Y) := by
  refine ⟨Int.mul_nonneg (by omega) g.x0, Int.mul_nonneg (by omega) g.y0, ?_⟩
  have h1 : 0 < k * k := Int.mul_pos (by omega) (by omega)
  have h2 := Int.mul_lt_mul_of_pos_left g.lt h1
  have e1 : k * X * (k * X) = k * k * (X * X) := by grind
  have e2 : n * (k * Y * (k * Y)) = k * k * (n * (Y * Y)) := by grind
  omega
/-- what is no less, as a fraction, than what lies above, lies above -/
theorem Gt.of_le {n X Y A B : Int} (h0 : 0 ≤ n) (g : Gt n X Y) (hy : 1 ≤ Y) (a0 : 0 ≤ A) (b0 : 0 ≤ B) (b1 : 1 ≤ B ∨ 1 ≤ A) (h : X * B ≤ A * Y) : Gt n A B := by
  refine ⟨a0, b0, ?_⟩
  have h1 := Int.mul_le_mul h h (Int.mul_nonneg g.x0 b0) (Int.mul_nonneg a0 (by omega))
  have hyy : 0 < Y * Y := Int.mul_pos (by omega) (by omega)
  by_cases z : B = 0
  · rw [z]
    have : 0 < A * A := Int.mul_pos (by omega) (by omega)
    omega
  · have hbb : 0 < B * B := Int.mul_pos (by omega) (by omega)
    have h2 := Int.mul_lt_mul_of_pos_right g.gt hbb
    have e1 : X * B * (X * B) = X * X * (B * B) := by grind
    have e2 : A * Y * (A * Y) = Y * Y * (A * A) := by grind
    have e3 : n * (Y * Y) * (B * B) = Y * Y * (n * (B * B)) := by grind
    exact Int.lt_of_mul_lt_mul_left (show Y * Y * (n * (B * B)) < Y * Y * (A * A) by omega) (by omega)
theorem Lt.of_le {n X Y A B : Int} (h0 : 0 ≤ n) (g : Lt n X Y) (hy : 1 ≤ Y) (a0 : 0 ≤ A) (b1 : 1 ≤ B) (h : A * Y ≤ X * B) : Lt n A B := by
  refine ⟨a0, by omega, ?_⟩
  have h1 := Int.mul_le_mul h h (Int.mul_nonneg a0 (by omega)) (Int.mul_nonneg g.x0 (by omega))
  have hyy : 0 < Y * Y := Int.mul_pos (by omega) (by omega)
  have hbb : 0 < B * B := Int.mul_pos (by omega) (by omega)
  have h2 := Int.mul_lt_mul_of_pos_right g.lt hbb
  have e1 : X * B * (X * B) = X * X * (B * B) := by grind
  have e2 : A * Y * (A * Y) = Y * Y * (A * A) := by grind
  have e3 : n * (Y * Y) * (B * B) = Y * Y * (n * (B * B)) := by grind
  exact Int.lt_of_mul_lt_mul_left (show Y * Y * (A * A) < Y * Y * (n * (B * B)) by omega) (by omega)
/-- nearer, by whole numbers -/
def near (n p q x c : Int) : Bool :=
  if decide (p * p < n * q * q) = decide (x * x < n * c * c) then
    if p * p < n * q * q then decide (0 < p * c - x * q) else decide (p * c - x * q < 0)
  else
    if p * p < n * q * q then decide (4 * n * (q * c) * (q * c) < (p * c + x * q) * (p * c + x * q)) else !decide (4 * n * (q * c) * (q * c) < (p * c + x * q) * (p * c + x * q))
/-- the fraction p over q, u over v ahead of it, x over c another one with a below no greater -/
theorem near_low {n p q u v x c : Int} (h0 : 0 ≤ n) (lp : Lt n p q) (gu : Gt n u v) (gm : Gt n (p + u) (q + v)) (e4 : p * v - u * q = -1) (q1 : 1 ≤ q) (v1 : 1 ≤ v) (u1 : 1 ≤ u) (x0 : 0 ≤ x) (c1 : 1 ≤ c) (cq : c ≤ q) (hne : x * q ≠ c * p) : near n p q x c = true := by
  have low : p * p < n * q * q := by rw [Int.mul_assoc]; exact lp.lt
  have hA : x * q - c * p ≤ -1 ∨ 1 ≤ x * q - c * p := by omega
  unfold near
  rw [if_pos low, if_pos low]
  rcases hA with hA | hA
  · -- x over c is less than p over q
    have lx : Lt n x c := lp.of_le h0 q1 x0 c1 (by rw [Int.mul_comm p c]; omega)
    have : x * x < n * c * c := by rw [Int.mul_assoc]; exact lx.lt
    rw [if_pos (by rw [decide_eq_true low, decide_eq_true this])]
    refine decide_eq_true ?_
    rw [Int.mul_comm p c]; omega
  · -- it is no less than u over v
    have hc : c = (c * u - x * v) * q + (x * q - c * p) * v := by
      have : (c * u - x * v) * q + (x * q - c * p) * v = c * -(p * v - u * q) := by grind
      rw [this, e4]; omega
    have hB : c * u - x * v ≤ 0 := by
      by_cases z : 1 ≤ c * u - x * v
      · have a1 : 1 * q ≤ (c * u - x * v) * q := Int.mul_le_mul_of_nonneg_right z (by omega)
        have a2 : 1 * v ≤ (x * q - c * p) * v := Int.mul_le_mul_of_nonneg_right hA (by omega)
        omega
      · omega
    have gx : Gt n x c := gu.of_le h0 v1 x0 (by omega) (.inl c1) (by rw [Int.mul_comm u c]; omega)
    have nl : ¬ x * x < n * c * c := by
      have := gx.gt
      rw [Int.mul_assoc]; omega
    rw [if_neg (by rw [decide_eq_true low, decide_eq_false nl]; decide)]
    refine decide_eq_true ?_
    have gxp : Gt n (x + p) (c + q) := by
      by_cases z : c * u - x * v = 0
      · -- the pair is a whole number times (u, v)
        have hx : x = (x * q - c * p) * u := by
          have : (c * u - x * v) * p + (x * q - c * p) * u = x * -(p * v - u * q) := by grind
          rw [z, e4] at this
          omega
        have hc' : c = (x * q - c * p) * v := by rw [z] at hc; omega
        by_cases y : x * q - c * p = 1
        · rw [y, Int.one_mul] at hx hc'
          rw [hx, hc', Int.add_comm u p, Int.add_comm v q]
          exact gm
        · have g2 := gm.add h0 (gu.smul (k := x * q - c * p - 1) (by omega))
          have e1 : x + p = p + u + (x * q - c * p - 1) * u := by
            have : (x * q - c * p - 1) * u = (x * q - c * p) * u - u := by grind
            omega
          have e2 : c + q = q + v + (x * q - c * p - 1) * v := by
            have : (x * q - c * p - 1) * v = (x * q - c * p) * v - v := by grind
            omega
          rw [e1, e2]
          exact g2
      · refine gu.of_le h0 v1 (by have := lp.x0; omega) (by omega) (.inl (by omega)) ?_
        have a : (x + p) * v - u * (c + q) = (x * v - c * u) + (p * v - u * q) := by grind
        omega
    have g3 := gxp.smul c1
    have g4 : Gt n (c * (x + p) + (q - c) * x) (c * (c + q) + (q - c) * c) := by
      by_cases z : q - c = 0
      · rw [z, Int.zero_mul, Int.zero_mul, Int.add_zero, Int.add_zero]
        exact g3
      · exact g3.add h0 (gx.smul (by omega))
    have e1 : c * (x + p) + (q - c) * x = p * c + x * q := by grind
    have e2 : c * (c + q) + (q - c) * c = 2 * (q * c) := by grind
    rw [e1, e2] at g4
    have g5 := g4.gt
    have e3 : n * (2 * (q * c) * (2 * (q * c))) = 4 * n * (q * c) * (q * c) := by grind
    omega
theorem near_high {n p q u v x c : Int} (h0 : 0 ≤ n) (gp : Gt n p q) (lu : Lt n u v) (lm : Lt n (p + u) (q + v)) (e4 : p * v - u * q = 1) (q1 : 1 ≤ q) (v1 : 1 ≤ v) (u1 : 1 ≤ u) (x0 : 0 ≤ x) (c1 : 1 ≤ c) (cq : c ≤ q) (hne : x * q ≠ c * p) : near n p q x c = true := by
  have low : ¬ p * p < n * q * q := by
    have := gp.gt
    rw [Int.mul_assoc]; omega
  have hA : c * p - x * q ≤ -1 ∨ 1 ≤ c * p - x * q := by omega
  unfold near
  rw [if_neg low, if_neg low]
  rcases hA with hA | hA
  · have gx : Gt n x c := gp.of_le h0 q1 x0 (by omega) (.inl c1) (by rw [Int.mul_comm p c]; omega)
    have : ¬ x * x < n * c * c := by
      have := gx.gt
      rw [Int.mul_assoc]; omega
    rw [if_pos (by rw [decide_eq_false low, decide_eq_false this])]
    refine decide_eq_true ?_
    rw [Int.mul_comm p c]; omega
  · have hc : c = (x * v - c * u) * q + (c * p - x * q) * v := by
      have : (x * v - c * u) * q + (c * p - x * q) * v = c * (p * v - u * q) := by grind
      rw [this, e4]; omega
    have hB : x * v - c * u ≤ 0 := by
      by_cases z : 1 ≤ x * v - c * u
      · have a1 : 1 * q ≤ (x * v - c * u) * q := Int.mul_le_mul_of_nonneg_right z (by omega)
        have a2 : 1 * v ≤ (c * p - x * q) * v := Int.mul_le_mul_of_nonneg_right hA (by omega)
        omega
      · omega
    have lx : Lt n x c := lu.of_le h0 v1 x0 c1 (by rw [Int.mul_comm u c]; omega)
    have nl : x * x < n * c * c := by rw [Int.mul_assoc]; exact lx.lt
    rw [if_neg (by rw [decide_eq_false low, decide_eq_true nl]; decide)]
    have lxp : Lt n (x + p) (c + q) := by
      by_cases z : x * v - c * u = 0
      · have hx : x = (c * p - x * q) * u := by
          have : (x * v - c * u) * p + (c * p - x * q) * u = x * (p * v - u * q) := by grind
          rw [z, e4] at this
          omega
        have hc' : c = (c * p - x * q) * v := by rw [z] at hc; omega
        by_cases y : c * p - x * q = 1
        · rw [y, Int.one_mul] at hx hc'
          rw [hx, hc', Int.add_comm u p, Int.add_comm v q]
          exact lm
        · have g2 := lm.add h0 (lu.smul (k := c * p - x * q - 1) (by omega))
          have e1 : x + p = p + u + (c * p - x * q - 1) * u := by
            have : (c * p - x * q - 1) * u = (c * p - x * q) * u - u := by grind
            omega
          have e2 : c + q = q + v + (c * p - x * q - 1) * v := by
            have : (c * p - x * q - 1) * v = (c * p - x * q) * v - v := by grind
            omega
          rw [e1, e2]
          exact g2
      · refine lu.of_le h0 v1 (by have := gp.x0; omega) (by omega) ?_
        have a : (x + p) * v - u * (c + q) = (x * v - c * u) + (p * v - u * q) := by grind
        omega
    have g3 := lxp.smul c1
    have g4 : Lt n (c * (x + p) + (q - c) * x) (c * (c + q) + (q - c) * c) := by
      by_cases z : q - c = 0
      · rw [z, Int.zero_mul, Int.zero_mul, Int.add_zero, Int.add_zero]
        exact g3
      · exact g3.add h0 (lx.smul (by omega))
    have e1 : c * (x + p) + (q - c) * x = p * c + x * q := by grind
    have e2 : c * (c + q) + (q - c) * c = 2 * (q * c) := by grind
    rw [e1, e2] at g4
    have g5 := g4.lt
    have e3 : n * (2 * (q * c) * (2 * (q * c))) = 4 * n * (q * c) * (q * c) := by grind
    rw [decide_eq_false (by omega)]
    rfl
/-- which side a fraction lies on -/
theorem cv_side {n r : Int} (w : Wh n r) (i : Nat) : (i % 2 = 0 → Lt n (cv n r (i + 2)).1 (cv n r (i + 2)).2) ∧ (i % 2 = 1 → Gt n (cv n r (i + 2)).1 (cv n r (i + 2)).2) := by
  have a := cv_pos w (i + 1)
  have b : 1 ≤ (cv n r (i + 2)).1 ∧ 0 ≤ (cv n r (i + 2)).2 := ⟨a.1, a.2.1⟩
  have e := cv_worth w (i + 1)
  have q := (st_q w (i + 1)).2.2.1
  have e' : (cv n r (i + 2)).1 * (cv n r (i + 2)).1 - n * ((cv n r (i + 2)).2 * (cv n r (i + 2)).2) = sg (i + 1) * (st n r (i + 1)).2 := e
  constructor
  · intro h
    rw [sg_odd (show (i + 1) % 2 = 1 by omega)] at e'
    exact ⟨by omega, b.2, by omega⟩
  · intro h
    rw [sg_even (show (i + 1) % 2 = 0 by omega)] at e'
    exact ⟨by omega, b.2, by omega⟩
theorem cv_near {n r x c : Int} (w : Wh n r) {i : Nat} (hi : 1 ≤ i) (x0 : 0 ≤ x) (c1 : 1 ≤ c) (cq : c ≤ (cv n r (i + 2)).2) (hne : x * (cv n r (i + 2)).2 ≠ c * (cv n r (i + 2)).1) : near n (cv n r (i + 2)).1 (cv n r (i + 2)).2 x c = true := by
  obtain ⟨j, rfl⟩ : ∃ j, i = j + 1 := ⟨i - 1, by omega⟩
  have f := fr w (j + 2)
  have hr := red w (j + 2) (by omega)
  have h0 : 0 ≤ n := by have := two_le w; omega
  have q1 := cv_y1 w (j + 1)
  have v1 := cv_y1 w j
  have u1 : 1 ≤ (cv n r (j + 2)).1 := (cv_pos w (j + 1)).1
  have p1 : 1 ≤ (cv n r (j + 1 + 2)).1 := (cv_pos w (j + 2)).1
  obtain ⟨wa, wb, wc⟩ := pair_bounds w hr.p1 hr.pr hr.q1 hr.w hr.lo hr.hi
  have ew : (n - (st n r (j + 2)).1 * (st n r (j + 2)).1) / (st n r (j + 2)).2 = pt n r (j + 2) := by
    have z : n - (st n r (j + 2)).1 * (st n r (j + 2)).1 = pt n r (j + 2) * (st n r (j + 2)).2 := by
      have := f.nn
      rw [Int.mul_comm (pt n r (j + 2))]; omega
    rw [z]
    exact Int.mul_ediv_cancel _ (by have := hr.q1; omega)
  rw [ew] at wa wb wc
  have hh := hr.hi
  -- the worth of the sum of both
  have em : ((cv n r (j + 1 + 2)).1 + (cv n r (j + 2)).1) * ((cv n r (j + 1 + 2)).1 + (cv n r (j + 2)).1) - n * (((cv n r (j + 1 + 2)).2 + (cv n r (j + 2)).2) * ((cv n r (j + 1 + 2)).2 + (cv n r (j + 2)).2)) = sg (j + 2) * ((st n r (j + 2)).2 - 2 * (st n r (j + 2)).1 - pt n r (j + 2)) := by
    have := nform (A := 1) (B := 1) f.e1 f.e2 f.e3
    simp only [Int.one_mul, Int.mul_one] at this
    exact this
  rcases Nat.mod_two_eq_zero_or_one j with z | z
  · -- above
    rw [sg_even (show (j + 2) % 2 = 0 by omega)] at em
    have e4 := f.e4
    rw [sg_even (show (j + 2) % 2 = 0 by omega)] at e4
    exact near_high h0 ((cv_side w (j + 1)).2 (by omega)) ((cv_side w j).1 z) ⟨by omega, by omega, by omega⟩ e4 q1 v1 u1 x0 c1 cq hne
  · rw [sg_odd (show (j + 2) % 2 = 1 by omega)] at em
    have e4 := f.e4
    rw [sg_odd (show (j + 2) % 2 = 1 by omega)] at e4
    exact near_low h0 ((cv_side w (j + 1)).1 (by omega)) ((cv_side w j).2 z) ⟨by omega, by omega, by omega⟩ e4 q1 v1 u1 x0 c1 cq hne
end Lad
set_option linter.all false
namespace Lad
/-! the round as a list -/
def rl (n r : Int) (m : Nat) : List Int := (List.range m).map fun i => qt n r (i + 1)
theorem rl_len (n r : Int) (m : Nat) : (rl n r m).length = m := by
  unfold rl
  rw [List.length_map, List.length_range]
theorem rl_at (n r : Int) {m i : Nat} (h : i < m) : (rl n r m)[i]? = some (qt n r (i + 1)) := by
  unfold rl
  rw [List.getElem?_map, List.getElem?_range h]
  rfl
theorem rl_succ (n r : Int) (m : Nat) : rl n r (m + 1) = rl n r m ++ [qt n r (m + 1)] := by
  unfold rl
  rw [List.range_succ, List.map_append]
  rfl
theorem rep_last {α : Type} (l : List α) (h : l ≠ []) : ∀ k, 1 ≤ k → (List.replicate k l).flatten.getLast? = l.getLast?
  | 0, h => absurd h (by decide)
  | k + 1, _ => by
    rw [List.replicate_succ', List.flatten_append, List.getLast?_append]
    have e : [l].flatten = l := by simp
    rw [e]
    obtain ⟨x, hx⟩ : ∃ x, l.getLast? = some x := by
      cases hl : l.getLast? with
      | none => exact absurd (List.getLast?_eq_none_iff.mp hl) h
      | some x => exact ⟨x, rfl⟩
    rw [hx]
    rfl
section
variable {n r : Int} {m : Nat}
theorem rl_last (w : Wh n r) (R : Rnd n r m) : (rl n r m)[m - 1]? = some (2 * r) := by
  have h := R.pos
  rw [rl_at n r (show m - 1 < m by omega), show m - 1 + 1 = m by omega]
  exact congrArg some (R.quo_end w)
theorem rl_pal (w : Wh n r) (R : Rnd n r m) {i : Nat} (h : i + 1 < m) : (rl n r m)[m - 2 - i]? = (rl n r m)[i]? := by
  rw [rl_at n r (show m - 2 - i < m by omega), rl_at n r (show i < m by omega), show m - 2 - i + 1 = m - (i + 1) by omega]
  exact congrArg some (R.quo_mirror w h).symm
theorem rl_short (w : Wh n r) (R : Rnd n r m) {s : Nat} (h1 : 1 ≤ s) (h2 : s < m) (h3 : m % s = 0) : rl n r m ≠ (List.replicate (m / s) ((rl n r m).take s)).flatten := fun e => by
  have hlen : ((rl n r m).take s).length = s := by rw [List.length_take, rl_len]; omega
  have hne : (rl n r m).take s ≠ [] := fun z => by rw [z] at hlen; simp at hlen; omega
  have hk : 1 ≤ m / s := (Nat.le_div_iff_mul_le (by omega)).mpr (by omega)
  have a := rep_last _ hne (m / s) hk
  rw [← e, List.getLast?_eq_getElem?, List.getLast?_eq_getElem?, rl_len, hlen, rl_last w R, List.getElem?_take, if_pos (by omega), rl_at n r (show s - 1 < m by omega)] at a
  have b := Option.some.inj a
  have c := R.quo_in w (show s - 1 + 1 < m by omega)
  exact c b.symm
end
end Lad
set_option linter.all false
namespace Lad
/-- how large the fractions' numbers are -/
theorem cv_bd {n r : Int} (w : Wh n r) (hr : r ≤ 316) : ∀ i, (cv n r i).1 ≤ ((2 ^ (10 * i) : Nat) : Int) ∧ (cv n r i).2 ≤ ((2 ^ (10 * i) : Nat) : Int) ∧ (cv n r (i + 1)).1 ≤ ((2 ^ (10 * (i + 1)) : Nat) : Int) ∧ (cv n r (i + 1)).2 ≤ ((2 ^ (10 * (i + 1)) : Nat) : Int)
  | 0 => ⟨(by decide : (0 : Int) ≤ ((2 ^ (10 * 0) : Nat) : Int)), (by decide : (1 : Int) ≤ ((2 ^ (10 * 0) : Nat) : Int)), (by decide : (1 : Int) ≤ ((2 ^ (10 * 1) : Nat) : Int)), (by decide : (0 : Int) ≤ ((2 ^ (10 * 1) : Nat) : Int))⟩
  | i + 1 => by
    obtain ⟨a, b, c, d⟩ := cv_bd w hr i
    obtain ⟨p1, p2, p3, p4⟩ := cv_pos w i
    have s := st_q w i
    have q1 : qt n r i * 1 ≤ qt n r i * (st n r i).2 := Int.mul_le_mul_of_nonneg_left s.2.2.1 (by omega)
    have q2 : qt n r i ≤ 632 := by omega
    have e : (2 : Nat) ^ (10 * (i + 2)) = 1024 * 2 ^ (10 * (i + 1)) := by
      rw [show 10 * (i + 2) = 10 + 10 * (i + 1) by omega, Nat.pow_add]
    have m : (2 : Nat) ^ (10 * i) ≤ 2 ^ (10 * (i + 1)) := Nat.pow_le_pow_right (by decide) (by omega)
    have e1 : (cv n r (i + 2)).1 = qt n r i * (cv n r (i + 1)).1 + (cv n r i).1 := rfl
    have e2 : (cv n r (i + 2)).2 = qt n r i * (cv n r (i + 1)).2 + (cv n r i).2 := rfl
    have f1 : qt n r i * (cv n r (i + 1)).1 ≤ 632 * (cv n r (i + 1)).1 := Int.mul_le_mul_of_nonneg_right q2 (by omega)
    have f2 : qt n r i * (cv n r (i + 1)).2 ≤ 632 * (cv n r (i + 1)).2 := Int.mul_le_mul_of_nonneg_right q2 (by omega)
    refine ⟨c, d, ?_, ?_⟩
    · show (cv n r (i + 2)).1 ≤ ((2 ^ (10 * (i + 2)) : Nat) : Int)
      rw [e1, e]
      generalize (2 : Nat) ^ (10 * (i + 1)) = X at *
      generalize (2 : Nat) ^ (10 * i) = Y at *
      omega
    · show (cv n r (i + 2)).2 ≤ ((2 ^ (10 * (i + 2)) : Nat) : Int)
      rw [e2, e]
      generalize (2 : Nat) ^ (10 * (i + 1)) = X at *
      generalize (2 : Nat) ^ (10 * i) = Y at *
      omega
theorem cv_sz {n r : Int} (w : Wh n r) (hr : r ≤ 316) (i : Nat) : (cv n r i).1.natAbs < 2 ^ (10 * i + 1) ∧ (cv n r i).2.natAbs < 2 ^ (10 * i + 1) := by
  obtain ⟨a, b, _, _⟩ := cv_bd w hr i
  obtain ⟨_, _, p3, p4⟩ := cv_pos w i
  rw [Nat.pow_succ]
  have : 1 ≤ 2 ^ (10 * i) := Nat.one_le_two_pow
  omega
end Lad
set_option linter.all false
namespace Lad
structure Sol (n c x y : Int) : Prop where
  x0 : 0 ≤ x
  y1 : 1 ≤ y
  e : x * x - n * (y * y) = c
structure Least (n c x y : Int) : Prop where
  sol : Sol n c x y
  min : ∀ x' y', Sol n c x' y' → y ≤ y'
section
variable {n r c x y : Int} {m : Nat}
/-- a whole number times a fraction, as a pair with some worth -/
theorem sol_of (w : Wh n r) {k : Int} (hk : 1 ≤ k) (j : Nat) : Sol n (k * k * (sg (j + 1) * (st n r (j + 1)).2)) (k * (cv n r (j + 2)).1) (k * (cv n r (j + 2)).2) := by
  have a := (cv_pos w (j + 1)).1
  have b := cv_y1 w j
  have e := cv_worth w (j + 1)
  have a' : 1 ≤ (cv n r (j + 2)).1 := a
  have e' : (cv n r (j + 2)).1 * (cv n r (j + 2)).1 - n * ((cv n r (j + 2)).2 * (cv n r (j + 2)).2) = sg (j + 1) * (st n r (j + 1)).2 := e
  have h1 : 1 * 1 ≤ k * (cv n r (j + 2)).2 := Int.mul_le_mul hk b (by decide) (by omega)
  refine ⟨Int.mul_nonneg (by omega) (by omega), by omega, ?_⟩
  rw [← e']
  grind
theorem sg_add (i : Nat) : ∀ d, d % 2 = 0 → sg (i + d) = sg i
  | 0, _ => rfl
  | 1, h => absurd h (by decide)
  | d + 2, h => by
    have := sg_add i d (by omega)
    show - - sg (i + d) = sg i
    rw [this]
    omega
/-- every pair of that worth is one such; the least one lies within the first lm m -/
theorem least_on (w : Wh n r) (R : Rnd n r m) (hc : c * c < n) (h : Least n c x y) : ∃ (j : Nat) (k : Int), 1 ≤ k ∧ j + 1 ≤ lm m ∧ x = k * (cv n r (j + 2)).1 ∧ y = k * (cv n r (j + 2)).2 ∧ c = k * k * (sg (j + 1) * (st n r (j + 1)).2) := by
  obtain ⟨j, k, hk, ex, ey⟩ := lag w h.sol.x0 h.sol.y1 h.sol.e hc
  have s := sol_of w hk j
  have ec : c = k * k * (sg (j + 1) * (st n r (j + 1)).2) := by
    rw [← h.sol.e, ex, ey]
    exact s.e
  have lp := lm_pos R.pos
  by_cases hj : j + 1 ≤ lm m
  · exact ⟨j, k, hk, hj, ex, ey, ec⟩
  · -- an earlier one would do
    exfalso
    obtain ⟨t, ht⟩ := Nat.dvd_of_mod_eq_zero lp.2.2
    have e1 : st n r (j - lm m + 1) = st n r (j + 1) := by
      have := R.perk t (j - lm m + 1) (by omega)
      rw [Nat.mul_comm t m, ← ht, show j - lm m + 1 + lm m = j + 1 by omega] at this
      exact this.symm
    have e2 : sg (j - lm m + 1) = sg (j + 1) := by
      have := sg_add (j - lm m + 1) (lm m) lp.2.1
      rw [show j - lm m + 1 + lm m = j + 1 by omega] at this
      exact this.symm
    have s2 := sol_of w hk (j - lm m)
    rw [e1, e2, ← ec] at s2
    have g := h.min _ _ s2
    rw [ey] at g
    have lt : (cv n r (j - lm m + 2)).2 < (cv n r (j + 2)).2 := by
      by_cases z : j - lm m = 0
      · rw [z]
        have a := (cv_up w 0).1
        have b := cv_lt w (i := 1) (j := j) (by decide) (by omega)
        exact Int.lt_of_le_of_lt a b
      · exact cv_lt w (by omega) (by omega)
    have := Int.mul_lt_mul_of_pos_left lt (show 0 < k by omega)
    omega
/-- the whole number is small -/
theorem mult_le (w : Wh n r) {k : Int} {j : Nat} (hk : 1 ≤ k) (e : c = k * k * (sg (j + 1) * (st n r (j + 1)).2)) : k ≤ (c.natAbs : Int) := by
  have q := (st_q w (j + 1)).2.2.1
  have h1 : 1 * k ≤ k * k := Int.mul_le_mul_of_nonneg_right hk (by omega)
  have h2 : k * k * 1 ≤ k * k * (st n r (j + 1)).2 := Int.mul_le_mul_of_nonneg_left q (by omega)
  rcases sg_or (j + 1) with ⟨s, _⟩ | ⟨s, _⟩
  · rw [s] at e
    have : k * k * (1 * (st n r (j + 1)).2) = k * k * (st n r (j + 1)).2 := by rw [Int.one_mul]
    omega
  · rw [s] at e
    have : k * k * (-1 * (st n r (j + 1)).2) = -(k * k * (st n r (j + 1)).2) := by grind
    omega
/-- of some pair with that worth there is a least one -/
theorem least_ex (h : Sol n c x y) : ∃ x' y', Least n c x' y' := by
  obtain ⟨m, _, ⟨x', hx⟩, hmin⟩ := least (p := fun m : Nat => ∃ x', Sol n c x' (m : Int)) y.toNat ⟨x, by
    have := h.y1
    rw [show ((y.toNat : Nat) : Int) = y by omega]
    exact h⟩
  refine ⟨x', (m : Int), hx, fun x2 y2 h2 => ?_⟩
  by_cases z : y2 < (m : Int)
  · have := h2.y1
    exact absurd ⟨x2, by rw [show ((y2.toNat : Nat) : Int) = y2 by omega]; exact h2⟩ (hmin y2.toNat (by omega))
  · omega
theorem least_uni {x' y' : Int} (h : Least n c x y) (h' : Least n c x' y') : x = x' ∧ y = y' := by
  have a := h.min _ _ h'.sol
  have b := h'.min _ _ h.sol
  have e : y = y' := by omega
  subst e
  have e1 := h.sol.e
  have e2 := h'.sol.e
  have x0 := h.sol.x0
  have x0' := h'.sol.x0
  refine ⟨?_, rfl⟩
  have sq : x * x = x' * x' := by omega
  by_cases z : x < x'
  · have := lt_sq x0 z
    omega
  · by_cases z2 : x' < x
    · have := lt_sq x0' z2
      omega
    · omega
end
end Lad
set_option linter.all false
namespace Lad
/-! the first so many quotients, fractions; a list of rounds -/
def qrow (n r : Int) (k : Nat) : List Int := (List.range k).map (qt n r)
def crow (n r : Int) (k : Nat) : List (Int × Int) := (List.range k).map fun i => cv n r (i + 2)
theorem qrow_len (n r : Int) (k : Nat) : (qrow n r k).length = k := by
  unfold qrow
  rw [List.length_map, List.length_range]
theorem crow_len (n r : Int) (k : Nat) : (crow n r k).length = k := by
  unfold crow
  rw [List.length_map, List.length_range]
theorem qrow_at {n r : Int} {k i : Nat} (h : i < k) : (qrow n r k)[i]? = some (qt n r i) := by
  unfold qrow
  rw [List.getElem?_map, List.getElem?_range h]
  rfl
theorem crow_at {n r : Int} {k i : Nat} (h : i < k) : (crow n r k)[i]? = some (cv n r (i + 2)) := by
  unfold crow
  rw [List.getElem?_map, List.getElem?_range h]
  rfl
theorem crow_succ (n r : Int) (k : Nat) : crow n r (k + 1) = crow n r k ++ [cv n r (k + 2)] := by
  unfold crow
  rw [List.range_succ, List.map_append]
  rfl
theorem qt_zero (n r : Int) : qt n r 0 = r := by
  show quo r (0, 1) = r
  unfold quo
  simp
section
variable {n r : Int} {m : Nat}
theorem flat_rl (R : Rnd n r m) : ∀ k, (List.replicate k (rl n r m)).flatten = (List.range (k * m)).map fun i => qt n r (i + 1)
  | 0 => by simp
  | k + 1 => by
    rw [List.replicate_succ, List.flatten_cons, flat_rl R k, Nat.succ_mul, Nat.add_comm, List.range_add, List.map_append, List.map_map]
    have e : ((fun i => qt n r (i + 1)) ∘ fun x => m + x) = fun i => qt n r (i + 1) := funext fun i => by
      show qt n r (m + i + 1) = qt n r (i + 1)
      rw [← qt_per R i, show i + 1 + m = m + i + 1 by omega]
    rw [e]
    rfl
theorem row_rounds (R : Rnd n r m) (k : Nat) : r :: (List.replicate k (rl n r m)).flatten = qrow n r (k * m + 1) := by
  unfold qrow
  rw [flat_rl R, List.range_succ_eq_map, List.map_cons, List.map_map, qt_zero]
  rfl
theorem row_once (R : Rnd n r m) : r :: rl n r m = qrow n r (m + 1) := by
  have h := row_rounds R 1
  rw [Nat.one_mul] at h
  rw [← h]
  simp
theorem qrow_take (n r : Int) {N j : Nat} (h : j ≤ N) : (qrow n r N).take j = qrow n r j := by
  unfold qrow
  rw [← List.map_take, List.take_range, Nat.min_eq_left h]
/-- the first fraction that can be stretched gives the least one -/
theorem first_least {c k : Int} {j : Nat} (w : Wh n r) (R : Rnd n r m) (hc : c * c < n) (hk : 1 ≤ k) (e : c = k * k * (sg (j + 1) * (st n r (j + 1)).2)) (hno : ∀ i, i < j → ∀ k', 1 ≤ k' → c ≠ k' * k' * (sg (i + 1) * (st n r (i + 1)).2)) :
    Least n c (k * (cv n r (j + 2)).1) (k * (cv n r (j + 2)).2) := by
  have s := sol_of w hk j
  rw [← e] at s
  obtain ⟨x', y', hL⟩ := least_ex s
  obtain ⟨i, k', hk', _, ex, ey, ec⟩ := least_on w R hc hL
  have hji : j ≤ i := by
    by_cases z : i < j
    · exact absurd ec (hno i z k' hk')
    · omega
  obtain ⟨q1, q2, q3, q4, q5, q6⟩ := st_q w (j + 1)
  have cvj := cv_y1 w j
  have key : k * (cv n r (j + 2)).2 ≤ y' := by
    rcases Nat.lt_or_eq_of_le hji with hlt | heq
    · -- the quotient behind it
      have absq : (sg (j + 1) * (st n r (j + 1)).2) * (sg (j + 1) * (st n r (j + 1)).2) = (st n r (j + 1)).2 * (st n r (j + 1)).2 := by
        have := sg_sq (j + 1)
        generalize sg (j + 1) = s at *
        generalize (st n r (j + 1)).2 = Q at *
        have : s * Q * (s * Q) = (s * s) * (Q * Q) := by grind
        rw [this, ‹s * s = 1›, Int.one_mul]
      have cc : c * c = (k * k * (st n r (j + 1)).2) * (k * k * (st n r (j + 1)).2) := by
        rw [e]
        generalize sg (j + 1) * (st n r (j + 1)).2 = W at *
        generalize (st n r (j + 1)).2 = Q at *
        have e1 : k * k * W * (k * k * W) = (k * k) * (k * k) * (W * W) := by grind
        have e2 : k * k * Q * (k * k * Q) = (k * k) * (k * k) * (Q * Q) := by grind
        rw [e1, e2, absq]
      have le : k * k * (st n r (j + 1)).2 ≤ r := by
        by_cases z : k * k * (st n r (j + 1)).2 ≤ r
        · exact z
        · have h1 : r + 1 ≤ k * k * (st n r (j + 1)).2 := by omega
          have h2 := Int.mul_le_mul h1 h1 (by have := w.pos; omega) (by have := w.pos; omega)
          have := w.hi
          rw [← cc] at h2
          omega
      have qk : k * k ≤ qt n r (j + 1) := by
        by_cases z : k * k ≤ qt n r (j + 1)
        · exact z
        · have h1 : qt n r (j + 1) + 1 ≤ k * k := by omega
          have h2 := Int.mul_le_mul_of_nonneg_right h1 (show 0 ≤ (st n r (j + 1)).2 by omega)
          have h3 : (qt n r (j + 1) + 1) * (st n r (j + 1)).2 = qt n r (j + 1) * (st n r (j + 1)).2 + (st n r (j + 1)).2 := by grind
          omega
      have kk : k ≤ k * k := by
        have := Int.mul_le_mul_of_nonneg_left hk (show 0 ≤ k by omega)
        omega
      have a1 : k * (cv n r (j + 2)).2 ≤ qt n r (j + 1) * (cv n r (j + 2)).2 := Int.mul_le_mul_of_nonneg_right (by omega) (by omega)
      have a2 : (cv n r (j + 3)).2 = qt n r (j + 1) * (cv n r (j + 2)).2 + (cv n r (j + 1)).2 := rfl
      have a3 : 0 ≤ (cv n r (j + 1)).2 := (cv_pos w j).2.1
      have a4 : (cv n r (j + 1 + 2)).2 ≤ (cv n r (j + 1 + (i - (j + 1)) + 2)).2 := cv_mono w (j + 1) (i - (j + 1))
      rw [show j + 1 + (i - (j + 1)) + 2 = i + 2 by omega, show j + 1 + 2 = j + 3 from rfl] at a4
      have a5 := cv_y1 w i
      have a6 : 1 * (cv n r (i + 2)).2 ≤ k' * (cv n r (i + 2)).2 := Int.mul_le_mul_of_nonneg_right hk' (by omega)
      omega
    · subst heq
      have h0 : sg (j + 1) * (st n r (j + 1)).2 ≠ 0 := by
        rcases sg_or (j + 1) with ⟨s, _⟩ | ⟨s, _⟩ <;> rw [s] <;> omega
      have h1 : k * k = k' * k' := Int.eq_of_mul_eq_mul_right h0 (by rw [← e, ← ec])
      have h2 : k = k' := by
        by_cases z : k < k'
        · have := lt_sq (show 0 ≤ k by omega) z
          omega
        · by_cases z2 : k' < k
          · have := lt_sq (show 0 ≤ k' by omega) z2
            omega
          · omega
      rw [ey, h2]
      exact Int.le_refl _
  exact ⟨s, fun x2 y2 h2 => Int.le_trans key (hL.min _ _ h2)⟩
end
end Lad
set_option Elab.async false
set_option linter.all false
set_option maxRecDepth 100000
set_option maxHeartbeats 4000000
namespace Rl
open PySem PySem.Spec PyProof.Rows L2 Evl

/-! ### operators of any size -/
def CMulA (i j : Int) : Prop := IntMulOk i j
theorem mulL {i j : Int} (h0 : -(2 ^ 64) < i) (h1 : i < 2 ^ 64) : CMulA i j := CMul.ok (.inl ⟨h0, h1⟩)
theorem mulR {i j : Int} (h0 : -(2 ^ 64) < j) (h1 : j < 2 ^ 64) : CMulA i j := CMul.ok (.inr ⟨h0, h1⟩)
theorem mulX {i j : Int} {a b : Nat} (ha : i.natAbs < 2 ^ a) (hb : j.natAbs < 2 ^ b) (h : a + b ≤ 134217728) : CMulA i j := (mulx_ok ha hb h).ok
def CDivA (i j : Int) : Prop := 0 < j ∧ (j < 1073741824 ∨ j.natAbs.log2 < 9000)
theorem CDivA.w {i j : Int} (h : CDivA i j) : CDivW i j := by
  refine ⟨h.1, ?_⟩
  rcases h.2 with z | z
  · have h1 := h.1
    have : j.natAbs < 2 ^ 30 := by show j.natAbs < 1073741824; omega
    have := PySem.Flt.log2_lt_of (by decide) this
    omega
  · exact z
section
variable {X : Cx}
theorem op_mulA : OpR X (binaryOp .Mult) (rI CMulA fun i j => .int (i * j)) := opI fun _ _ _ _ _ _ _ hc q => mul_int q hc
theorem op_fdivA : OpR X (binaryOp .FloorDiv) (rI CDivA fun i j => .int (i / j)) := by
  intro pins s σ H x y v u Q I rx ry h
  obtain ⟨i, j, e1, e2, hc, q⟩ := h
  exact op_fdivW pins s σ H x y v u Q I rx ry ⟨i, j, e1, e2, hc.w, q⟩
theorem rel_ty {n : String} : RelV (.ty n) (.type n) := rfl
theorem rel_ref {a : Addr} : RelV (.ref a) (.ref a) := rfl
def rIsq : List V → Hp → VK → Prop := fun vs H Q => ∃ a : Int, vs = [.int a] ∧ 0 ≤ a ∧ a.toNat.log2 < 13000 ∧ Q (.int ((Float64.isqrt a.toNat : Nat) : Int)) H
theorem cr_isqrt : CallR X (.builtin "math.isqrt") rIsq := by
  intro pins s σ H vs us Q I r h
  obtain ⟨a, rfl, h0, hl, q⟩ := h
  cases r with
  | cons r1 r2 =>
    cases r2
    obtain ⟨t, rfl⟩ := r1
    exact call_function_meets PySem.W.MGF.kind_isqrt PySem.W.MGF.plain_isqrt PySem.W.MGF.entry_isqrt (PySem.W.MGF.args_isqrt _) (PySem.W.mg_run_isqrt a t (by omega) (by omega) (by omega)).meets ⟨.int _, H, I.tok _, ⟨_, rfl⟩, q⟩
end
theorem log2_lt {n k : Nat} (h : n < 2 ^ k) (h0 : 0 < k) : n.log2 < k := by
  by_cases hn : n = 0
  · subst hn; rw [Nat.log2_zero]; exact h0
  · exact (Nat.log2_lt hn).mpr h
theorem cmulW {i j : Int} {a b : Nat} (ha : i.natAbs < 2 ^ a) (hb : j.natAbs < 2 ^ b) (h0 : 0 < a := by decide) (h1 : 0 < b := by decide) (h : a + b ≤ 1000000 := by decide) : CMulA i j := CMulW.ok (wide_mul ha hb h0 h1 h)

/-! ### evaluation, by the operators -/
section
variable {K : PySem.W.Frag} {σ : L2.St} {H H' : Hp} {ta tb te tx : TE} {t u : TT} {x y z v : V} {i j : Int}
theorem ev_add (ha : Ev ta σ H (.int i)) (hb : Ev tb σ H (.int j)) : Ev (tOp (rI0 fun i j => .int (i + j)) ta tb) σ H (.int (i + j)) := ev_op ha hb rv_I0
theorem ev_sub (ha : Ev ta σ H (.int i)) (hb : Ev tb σ H (.int j)) : Ev (tOp (rI0 fun i j => .int (i - j)) ta tb) σ H (.int (i - j)) := ev_op ha hb rv_I0
theorem ev_mul (ha : Ev ta σ H (.int i)) (hb : Ev tb σ H (.int j)) (hc : CMulA i j) : Ev (tOp (rI CMulA fun i j => .int (i * j)) ta tb) σ H (.int (i * j)) := ev_op ha hb (rv_I hc)
theorem ev_mod (ha : Ev ta σ H (.int i)) (hb : Ev tb σ H (.int j)) (hc : 0 < j) : Ev (tOp (rI (fun _ j => 0 < j) fun i j => .int (i % j)) ta tb) σ H (.int (i % j)) := ev_op ha hb (rv_I hc)
theorem ev_div (ha : Ev ta σ H (.int i)) (hb : Ev tb σ H (.int j)) (hc : CDivA i j) : Ev (tOp (rI CDivA fun i j => .int (i / j)) ta tb) σ H (.int (i / j)) := ev_op ha hb (rv_I hc)
theorem ev_pow (ha : Ev ta σ H (.int i)) (hb : Ev tb σ H (.int j)) (hc : CPow i j) : Ev (tOp (rI CPow fun i j => .int (i ^ j.toNat)) ta tb) σ H (.int (i ^ j.toNat)) := ev_op ha hb (rv_I hc)
theorem ev_neg (ha : Ev ta σ H (.int i)) : Ev (tUn (rU fun i => .int (-i)) ta) σ H (.int (-i)) := ev_un ha ru_neg
theorem ev_lt (ha : Ev ta σ H (.int i)) (hb : Ev tb σ H (.int j)) : Ev (tOp (rI0 fun i j => .bl (decide (i < j))) ta tb) σ H (.bl (decide (i < j))) := ev_op ha hb rv_I0
theorem ev_le (ha : Ev ta σ H (.int i)) (hb : Ev tb σ H (.int j)) : Ev (tOp (rI0 fun i j => .bl (decide (i ≤ j))) ta tb) σ H (.bl (decide (i ≤ j))) := ev_op ha hb rv_I0
theorem ev_gt (ha : Ev ta σ H (.int i)) (hb : Ev tb σ H (.int j)) : Ev (tOp (rI0 fun i j => .bl (decide (j < i))) ta tb) σ H (.bl (decide (j < i))) := ev_op ha hb rv_I0
theorem ev_ge (ha : Ev ta σ H (.int i)) (hb : Ev tb σ H (.int j)) : Ev (tOp (rI0 fun i j => .bl (decide (j ≤ i))) ta tb) σ H (.bl (decide (j ≤ i))) := ev_op ha hb rv_I0
theorem vint_eq : decide (V.int i = V.int j) = decide (i = j) := by
  rw [Bool.eq_iff_iff]; simp
theorem vbl_eq {a b : Bool} : decide (V.bl a = V.bl b) = decide (a = b) := by
  rw [Bool.eq_iff_iff]; simp
theorem ev_eqI (ha : Ev ta σ H (.int i)) (hb : Ev tb σ H (.int j)) : Ev (tOp rEq ta tb) σ H (.bl (decide (i = j))) := by
  rw [← vint_eq]; exact ev_op ha hb (rv_eq rfl)
theorem ev_neI (ha : Ev ta σ H (.int i)) (hb : Ev tb σ H (.int j)) : Ev (tOp rNe ta tb) σ H (.bl (!decide (i = j))) := by
  rw [← vint_eq]; exact ev_op ha hb (rv_ne rfl)
theorem ev_eqB {a b : Bool} (ha : Ev ta σ H (.bl a)) (hb : Ev tb σ H (.bl b)) : Ev (tOp rEq ta tb) σ H (.bl (decide (a = b))) := by
  rw [← vbl_eq]; exact ev_op ha hb (rv_eq rfl)
theorem ev_neB {a b : Bool} (ha : Ev ta σ H (.bl a)) (hb : Ev tb σ H (.bl b)) : Ev (tOp rNe ta tb) σ H (.bl (!decide (a = b))) := by
  rw [← vbl_eq]; exact ev_op ha hb (rv_ne rfl)
/-- isinstance by a built-in class -/
theorem ev_isi {m n : String} {b : Bool} (ha : Ev ta σ H x) (ty : ∀ H1, Ex H H1 → TyX K H1 x (.type m)) (hk : kitB m n = some b) : Ev (tCB (rIsi K) (tCons ta (tCons (tC (.ty n)) tNil))) σ H (.bl b) := fun H1 e Q q =>
  ha H1 e _ fun H2 e2 => ⟨x, .ty n, .type m, .type n, b, rfl, .ty n, ty H2 (e.trans e2), kit_ty hk, q H2 e2⟩
theorem kb_ii : kitB "int" "int" = some true := by decide +kernel
theorem kb_ib : kitB "int" "bool" = some false := by decide +kernel
theorem kb_bi : kitB "bool" "int" = some true := by decide +kernel
theorem kb_bb : kitB "bool" "bool" = some true := by decide +kernel
theorem kb_tt : kitB "tuple" "tuple" = some true := by decide +kernel
theorem kb_ll : kitB "list" "list" = some true := by decide +kernel
theorem ev_isII (ha : Ev ta σ H (.int i)) : Ev (tCB (rIsi K) (tCons ta (tCons (tC (.ty "int")) tNil))) σ H (.bl true) := ev_isi ha (fun _ _ => .base (.int i)) kb_ii
theorem ev_isIB (ha : Ev ta σ H (.int i)) : Ev (tCB (rIsi K) (tCons ta (tCons (tC (.ty "bool")) tNil))) σ H (.bl false) := ev_isi ha (fun _ _ => .base (.int i)) kb_ib
theorem ev_isBB {b : Bool} (ha : Ev ta σ H (.bl b)) : Ev (tCB (rIsi K) (tCons ta (tCons (tC (.ty "bool")) tNil))) σ H (.bl true) := ev_isi ha (fun _ _ => .base (.bl b)) kb_bb
theorem ev_isT {p : Addr} {xs : List V} (ha : Ev ta σ H (.ref p)) (hp : H p = some (.tup xs)) : Ev (tCB (rIsi K) (tCons ta (tCons (tC (.ty "tuple")) tNil))) σ H (.bl true) := ev_isi ha (fun _ e => .base (.tup (e _ _ hp))) kb_tt
theorem ev_isL {p : Addr} {xs : List V} (ha : Ev ta σ H (.ref p)) (hp : H p = some (.lst xs)) : Ev (tCB (rIsi K) (tCons ta (tCons (tC (.ty "list")) tNil))) σ H (.bl true) := ev_isi ha (fun _ e => .base (.lst (e _ _ hp))) kb_ll
def rMx2 : List V → Hp → VK → Prop := fun xs H Q => ∃ i j, xs = [.int i, .int j] ∧ Q (.int (if j > i then j else i)) H
theorem ev_max (ha : Ev ta σ H (.int i)) (hb : Ev tb σ H (.int j)) : Ev (tCB (fun xs H Q => ∃ i j, xs = [.int i, .int j] ∧ Q (.int (if j > i then j else i)) H) (tCons ta (tCons tb tNil))) σ H (.int (max i j)) := fun H1 e Q q =>
  ha H1 e _ fun H2 e2 => hb H2 (e.trans e2) _ fun H3 e3 => ⟨i, j, rfl, by
    have := q H3 (e2.trans e3)
    by_cases h : j > i
    · rw [if_pos h]; rwa [Int.max_eq_right (by omega)] at this
    · rw [if_neg h]; rwa [Int.max_eq_left (by omega)] at this⟩
theorem ev_min (ha : Ev ta σ H (.int i)) (hb : Ev tb σ H (.int j)) : Ev (tCB (fun xs H Q => ∃ i j, xs = [.int i, .int j] ∧ Q (.int (if j < i then j else i)) H) (tCons ta (tCons tb tNil))) σ H (.int (min i j)) := fun H1 e Q q =>
  ha H1 e _ fun H2 e2 => hb H2 (e.trans e2) _ fun H3 e3 => ⟨i, j, rfl, by
    have := q H3 (e2.trans e3)
    by_cases h : j < i
    · rw [if_pos h]; rwa [Int.min_eq_right (by omega)] at this
    · rw [if_neg h]; rwa [Int.min_eq_left (by omega)] at this⟩
theorem ev_isq (ha : Ev ta σ H (.int i)) (h0 : 0 ≤ i) (hl : i.toNat.log2 < 13000) : Ev (tCB rIsq (tCons ta tNil)) σ H (.int ((Float64.isqrt i.toNat : Nat) : Int)) := fun H1 e Q q =>
  ha H1 e _ fun H2 e2 => ⟨i, rfl, h0, hl, q H2 e2⟩
/-- [a, b, ..][k] -/
theorem ev_menu {ta : TA} {vs : List V} {n : Nat} (h : EvA ta σ H vs) (hz : vs.length ≤ 100000) (hi : Ev tb σ H (.int i)) (hn : i = (n : Int)) (hv : vs[n]? = some v) : Ev (tOp (rIxL K) (tLst ta) tb) σ H v :=
  ev_opL1 (el_lst h hz) (fun _ e => hi.mono e) fun p H1 hp e => rv_ixL (sq_of hp) (at_of hn hv)
/-- a name's item, a list, a tuple -/
theorem ev_ixL {p : Addr} {xs : List V} {n : Nat} (ha : Ev ta σ H (.ref p)) (hp : SqL K H p xs) (hi : Ev tb σ H (.int i)) (hn : i = (n : Int)) (hv : xs[n]? = some v) : Ev (tOp (rIxL K) ta tb) σ H v := ev_op ha hi (rv_ixL hp (at_of hn hv))
theorem ev_ixT {p : Addr} {xs : List V} {n : Nat} (ha : Ev ta σ H (.ref p)) (hp : SqT K H p xs) (hi : Ev tb σ H (.int i)) (hn : i = (n : Int)) (hv : xs[n]? = some v) : Ev (tOp (rIxT K) ta tb) σ H v := ev_op ha hi (rv_ixT hp (at_of hn hv))
/-- xs[lo:hi] -/
theorem el_slice {p : Addr} {xs : List V} {tl th : TO} {lo hi : Option Int} (ha : Ev ta σ H (.ref p)) (hp : SqL K H p xs) (hl : EvO tl σ H lo) (hh : EvO th σ H hi) : EvL (tSl (rSlL K) ta tl th) σ H (cutV xs lo hi) := fun H1 e Q q =>
  ha H1 e _ fun H2 e2 => hl H2 (e.trans e2) _ fun H3 e3 => hh H3 ((e.trans e2).trans e3) _ fun H4 e4 =>
    ⟨p, xs, rfl, ex_l (((e.trans e2).trans e3).trans e4) hp, fun q' hq' => q q' _ (fresh_back ((e2.trans e3).trans e4) hq') (((e2.trans e3).trans e4).trans (Ex.new hq')) upd_same⟩
variable {D : Ends} {tu tw tz : TS} {g : TG}
/-- for k, x in enumerate(a new list) -/
theorem s_enumN {xs : List V} {a b : Nat} (h : EvL te σ H xs) (Pv : Addr → Nat → L2.St → Hp → Prop) (h0 : ∀ p H1, H p = none → Ex H H1 → H1 p = some (.lst xs) → Pv p 0 σ H1) (hl : ∀ p k σ' H', k ≤ xs.length → Pv p k σ' H' → SqL K H' p xs)
    (hs : ∀ p k x σ' H' T, xs[k]? = some x → Pv p k σ' H' → H' T = none → tu { D with nx := Pv p (k + 1), ct := Pv p (k + 1), bk := D.nx } ((σ'.set a (some (.int (k : Int)))).set b (some x)) (upd H' T (.tup [.int (k : Int), x]))) (hd : ∀ p σ' H', Pv p xs.length σ' H' → D.nx σ' H') :
    tFor (iEnum K (tCons te tNil)) (gTup K 2 (gCons (gName a) (gCons (gName b) gNil))) tu D σ H :=
  h H (Ex.refl H) _ fun p H1 hp e h1 => ⟨p, xs, rfl, sq_of h1, for_it walk_enum (Pv p) (h0 p H1 hp e h1) (hl p) (fun k x σ' H' H2 hk hP hy => by
    obtain ⟨T, y1, y2, rfl, nT, rfl, f1, f2⟩ := hy
    have e1 : V.int (k : Int) = y1 := Option.some.inj f1
    subst e1
    exact ⟨T, [.int (k : Int), y2], rfl, .inl (.inl upd_same), rfl, _, [y2], rfl, y2, [], rfl, rfl, hs p k y2 σ' H' T f2 hP nT⟩) (hd p)⟩
theorem q_enumN {xs : List V} {a b : Nat} (h : EvL te σ H xs) (Pv : Addr → Nat → L2.St → Hp → Prop) (h0 : ∀ p H1, H p = none → Ex H H1 → H1 p = some (.lst xs) → Pv p 0 σ H1) (hl : ∀ p k σ' H', k ≤ xs.length → Pv p k σ' H' → SqL K H' p xs)
    (hs : ∀ p k x σ' H' T, xs[k]? = some x → Pv p k σ' H' → H' T = none → tu { D with nx := Pv p (k + 1), ct := Pv p (k + 1), bk := tz D } ((σ'.set a (some (.int (k : Int)))).set b (some x)) (upd H' T (.tup [.int (k : Int), x]))) (hd : ∀ p σ' H', Pv p xs.length σ' H' → tz D σ' H') :
    tSeq (tFor (iEnum K (tCons te tNil)) (gTup K 2 (gCons (gName a) (gCons (gName b) gNil))) tu) tz D σ H := s_enumN (D := { D with nx := tz D }) h Pv h0 hl hs hd
end
/-! ### data: lists and tuples of ints, compared -/
theorem eqv_ints : ∀ xs ys : List Int, PyData.eqvAll (xs.map .int) (ys.map .int) = decide (xs = ys)
  | [], [] => rfl
  | [], _ :: _ => rfl
  | _ :: _, [] => rfl
  | x :: xs, y :: ys => by
    show ((x == y) && PyData.eqvAll (xs.map .int) (ys.map .int)) = _
    rw [eqv_ints xs ys, Bool.eq_iff_iff]
    simp
theorem lay_ints : ∀ xs : List Int, PyData.canLayAll0 (xs.map .int) = true
  | [] => rfl
  | _ :: xs => by
    show (true && PyData.canLayAll0 (xs.map .int)) = true
    rw [lay_ints xs]; rfl
theorem dep_ints : ∀ xs : List Int, PyData.depthAll (xs.map .int) ≤ 1
  | [] => by simp [PyData.depthAll]
  | x :: xs => by
    have := dep_ints xs
    simp only [List.map_cons, PyData.depthAll, PyData.depth]
    omega
theorem shp_lst (xs : List Int) : SeqAt.shaped (.list (xs.map .int)) = true := by
  unfold SeqAt.shaped
  have h := dep_ints xs
  rw [show (PyData.list (xs.map .int)).canLay0 = true from lay_ints xs]
  exact decide_eq_true (by simp only [PyData.depth]; omega)
theorem shp_tup (xs : List Int) : SeqAt.shaped (.tuple (xs.map .int)) = true := by
  unfold SeqAt.shaped
  have h := dep_ints xs
  rw [show (PyData.tuple (xs.map .int)).canLay0 = true from lay_ints xs]
  exact decide_eq_true (by simp only [PyData.depth]; omega)
theorem dpa_ints {K : PySem.W.Frag} {H : Hp} : ∀ xs : List Int, DpAll K H (xs.map V.int) (xs.map .int)
  | [] => .nil
  | x :: xs => .cons (.int x) (dpa_ints xs)
/-- a list of pairs of ints, each at its own tuple -/
def Prs (K : PySem.W.Frag) (H : Hp) : List V → List (Int × Int) → Prop
  | [], [] => True
  | v :: vs, p :: ps => (∃ a, v = .ref a ∧ H a = some (.tup [.int p.1, .int p.2])) ∧ Prs K H vs ps
  | _, _ => False
def dpr (p : Int × Int) : PyData := .tuple [.int p.1, .int p.2]
theorem eqv_prs : ∀ xs ys : List (Int × Int), PyData.eqvAll (xs.map dpr) (ys.map dpr) = decide (xs = ys)
  | [], [] => rfl
  | [], _ :: _ => rfl
  | _ :: _, [] => rfl
  | x :: xs, y :: ys => by
    show (((x.1 == y.1) && ((x.2 == y.2) && true)) && PyData.eqvAll (xs.map dpr) (ys.map dpr)) = _
    rw [eqv_prs xs ys, Bool.eq_iff_iff]
    simp [Prod.ext_iff]
theorem lay_prs : ∀ xs : List (Int × Int), PyData.canLayAll0 (xs.map dpr) = true
  | [] => rfl
  | _ :: xs => by
    show (true && PyData.canLayAll0 (xs.map dpr)) = true
    rw [lay_prs xs]; rfl
theorem dep_prs : ∀ xs : List (Int × Int), PyData.depthAll (xs.map dpr) ≤ 3
  | [] => by simp [PyData.depthAll]
  | x :: xs => by
    have := dep_prs xs
    simp only [List.map_cons, PyData.depthAll, dpr, PyData.depth]
    omega
theorem shp_prs (xs : List (Int × Int)) : SeqAt.shaped (.list (xs.map dpr)) = true := by
  unfold SeqAt.shaped
  have h := dep_prs xs
  rw [show (PyData.list (xs.map dpr)).canLay0 = true from lay_prs xs]
  exact decide_eq_true (by simp only [PyData.depth]; omega)
theorem Prs.len {K : PySem.W.Frag} {H : Hp} : ∀ {vs : List V} {ps : List (Int × Int)}, Prs K H vs ps → vs.length = ps.length
  | [], [], _ => rfl
  | _ :: _, _ :: _, h => congrArg (· + 1) (Prs.len h.2)
  | [], _ :: _, h => h.elim
  | _ :: _, [], h => h.elim
theorem Prs.mono {K : PySem.W.Frag} {H H' : Hp} (e : Ex H H') : ∀ {vs : List V} {ps : List (Int × Int)}, Prs K H vs ps → Prs K H' vs ps
  | [], [], _ => trivial
  | _ :: _, _ :: _, ⟨⟨a, h1, h2⟩, h3⟩ => ⟨⟨a, h1, e _ _ h2⟩, Prs.mono e h3⟩
  | [], _ :: _, h => h.elim
  | _ :: _, [], h => h.elim
theorem Prs.snoc {K : PySem.W.Frag} {H : Hp} {p : Addr} {x y : Int} (hp : H p = some (.tup [.int x, .int y])) : ∀ {vs : List V} {ps : List (Int × Int)}, Prs K H vs ps → Prs K H (vs ++ [.ref p]) (ps ++ [(x, y)])
  | [], [], _ => ⟨⟨p, rfl, hp⟩, trivial⟩
  | _ :: _, _ :: _, ⟨h1, h3⟩ => ⟨h1, Prs.snoc hp h3⟩
  | [], _ :: _, h => h.elim
  | _ :: _, [], h => h.elim
theorem Prs.at {K : PySem.W.Frag} {H : Hp} : ∀ {vs : List V} {ps : List (Int × Int)} {i : Nat} {v : V}, Prs K H vs ps → vs[i]? = some v → ∃ p a, ps[i]? = some p ∧ v = .ref a ∧ H a = some (.tup [.int p.1, .int p.2])
  | [], [], i, v, _, e => by simp at e
  | _ :: _, p :: _, 0, v, ⟨⟨a, h1, h2⟩, _⟩, e => by
    have e' := Option.some.inj e
    subst e'
    exact ⟨p, a, rfl, h1, h2⟩
  | _ :: _, _ :: _, i + 1, v, ⟨_, h3⟩, e => Prs.at (i := i) h3 e
  | [], _ :: _, _, _, h, _ => h.elim
  | _ :: _, [], _, _, h, _ => h.elim
theorem Prs.dp {K : PySem.W.Frag} {H : Hp} : ∀ {vs : List V} {ps : List (Int × Int)}, Prs K H vs ps → DpAll K H vs (ps.map dpr)
  | [], [], _ => .nil
  | _ :: _, p :: _, ⟨⟨a, h1, h2⟩, h3⟩ => by
    subst h1
    exact .cons (.tup (st_of h2) (.cons (.int _) (.cons (.int _) .nil))) (Prs.dp h3)
  | [], _ :: _, h => h.elim
  | _ :: _, [], h => h.elim
section
variable {K : PySem.W.Frag} {σ : L2.St} {H H' : Hp} {ta tb te tx : TE} {t u : TT} {x y z v : V} {i j : Int}
/-- == and != by data -/
theorem rv_eqD {d e : PyData} (h1 : Dp K H x d) (h2 : Dp K H y e) (m1 : ∀ H1, Ex H H1 → Dp K H1 x d) (m2 : ∀ H1, Ex H H1 → Dp K H1 y e) (s1 : SeqAt.shaped d = true) (s2 : SeqAt.shaped e = true) : RV (rEqD K) x y H (.bl (PyData.eqv d e)) :=
  fun H1 ex _ q => ⟨d, e, m1 H1 ex, m2 H1 ex, s1, s2, q H1 (Ex.refl H1)⟩
theorem ev_eqLL {a b : Addr} {xs ys : List Int} (ha : Ev ta σ H (.ref a)) (hb : Ev tb σ H (.ref b)) (h1 : SqL K H a (xs.map V.int)) (h2 : SqL K H b (ys.map V.int)) : Ev (tOp (rEqD K) ta tb) σ H (.bl (decide (xs = ys))) := by
  rw [← eqv_ints]
  exact ev_op ha hb fun H1 e _ q => ⟨.list (xs.map .int), .list (ys.map .int), .lst (ex_l e h1) (dpa_ints xs), .lst (ex_l e h2) (dpa_ints ys), shp_lst xs, shp_lst ys, q H1 (Ex.refl H1)⟩
theorem ev_neLL {a b : Addr} {xs ys : List Int} (ha : Ev ta σ H (.ref a)) (hb : Ev tb σ H (.ref b)) (h1 : SqL K H a (xs.map V.int)) (h2 : SqL K H b (ys.map V.int)) : Ev (tOp (rNeD K) ta tb) σ H (.bl (!decide (xs = ys))) := by
  rw [← eqv_ints]
  exact ev_op ha hb fun H1 e _ q => ⟨.list (xs.map .int), .list (ys.map .int), .lst (ex_l e h1) (dpa_ints xs), .lst (ex_l e h2) (dpa_ints ys), shp_lst xs, shp_lst ys, q H1 (Ex.refl H1)⟩
theorem ev_neTT {a b : Addr} {xs ys : List Int} (ha : Ev ta σ H (.ref a)) (hb : Ev tb σ H (.ref b)) (h1 : SqT K H a (xs.map V.int)) (h2 : SqT K H b (ys.map V.int)) : Ev (tOp (rNeD K) ta tb) σ H (.bl (!decide (xs = ys))) := by
  rw [← eqv_ints]
  exact ev_op ha hb fun H1 e _ q => ⟨.tuple (xs.map .int), .tuple (ys.map .int), .tup (ex_t e h1) (dpa_ints xs), .tup (ex_t e h2) (dpa_ints ys), shp_tup xs, shp_tup ys, q H1 (Ex.refl H1)⟩
/-- xs == [..], a new list on the right -/
theorem ev_eqLN {a : Addr} {xs ys : List Int} (ha : Ev ta σ H (.ref a)) (hb : EvL tb σ H (ys.map V.int)) (h1 : SqL K H a (xs.map V.int)) : Ev (tOp (rEqD K) ta tb) σ H (.bl (decide (xs = ys))) := by
  rw [← eqv_ints]
  exact ev_opL ha hb fun p H1 hp e => fun H2 e2 _ q => ⟨.list (xs.map .int), .list (ys.map .int), .lst (ex_l (e.trans e2) h1) (dpa_ints xs), .lst (sq_of (e2 _ _ hp)) (dpa_ints ys), shp_lst xs, shp_lst ys, q H2 (Ex.refl H2)⟩
theorem ev_neLN {a : Addr} {xs ys : List Int} (ha : Ev ta σ H (.ref a)) (hb : EvL tb σ H (ys.map V.int)) (h1 : SqL K H a (xs.map V.int)) : Ev (tOp (rNeD K) ta tb) σ H (.bl (!decide (xs = ys))) := by
  rw [← eqv_ints]
  exact ev_opL ha hb fun p H1 hp e => fun H2 e2 _ q => ⟨.list (xs.map .int), .list (ys.map .int), .lst (ex_l (e.trans e2) h1) (dpa_ints xs), .lst (sq_of (e2 _ _ hp)) (dpa_ints ys), shp_lst xs, shp_lst ys, q H2 (Ex.refl H2)⟩
theorem ev_eqNN {xs ys : List Int} (ha : EvL ta σ H (xs.map V.int)) (hb : EvL tb σ H (ys.map V.int)) : Ev (tOp (rEqD K) ta tb) σ H (.bl (decide (xs = ys))) := by
  rw [← eqv_ints]
  exact ev_opLL ha hb fun p q H1 hp hq e => fun H2 e2 _ k => ⟨.list (xs.map .int), .list (ys.map .int), .lst (sq_of (e2 _ _ hp)) (dpa_ints xs), .lst (sq_of (e2 _ _ hq)) (dpa_ints ys), shp_lst xs, shp_lst ys, k H2 (Ex.refl H2)⟩
theorem ev_neNN {xs ys : List Int} (ha : EvL ta σ H (xs.map V.int)) (hb : EvL tb σ H (ys.map V.int)) : Ev (tOp (rNeD K) ta tb) σ H (.bl (!decide (xs = ys))) := by
  rw [← eqv_ints]
  exact ev_opLL ha hb fun p q H1 hp hq e => fun H2 e2 _ k => ⟨.list (xs.map .int), .list (ys.map .int), .lst (sq_of (e2 _ _ hp)) (dpa_ints xs), .lst (sq_of (e2 _ _ hq)) (dpa_ints ys), shp_lst xs, shp_lst ys, k H2 (Ex.refl H2)⟩
/-- the first operand a new tuple -/
theorem ev_opU1 {xs : List V} {r : R2} (ha : EvU ta σ H xs) (hb : Ev tb σ H y) (hr : ∀ p H1, H1 p = some (.tup xs) → Ex H H1 → RV r (.ref p) y H1 z) : Ev (tOp r ta tb) σ H z := fun H1 e Q q =>
  ha H1 e _ fun p H2 _ e2 hp => hb H2 (e.trans e2) _ fun H3 e3 => hr p H3 (e3 p _ hp) ((e.trans e2).trans e3) H3 (Ex.refl H3) Q fun H4 e4 => q H4 ((e2.trans e3).trans e4)
theorem ev_neUT {b : Addr} {xs ys : List Int} (ha : EvU ta σ H (xs.map V.int)) (hb : Ev tb σ H (.ref b)) (h2 : SqT K H b (ys.map V.int)) : Ev (tOp (rNeD K) ta tb) σ H (.bl (!decide (xs = ys))) := by
  rw [← eqv_ints]
  exact ev_opU1 ha hb fun p H1 hp e => fun H2 e2 _ q => ⟨.tuple (xs.map .int), .tuple (ys.map .int), .tup (st_of (e2 _ _ hp)) (dpa_ints xs), .tup (ex_t (e.trans e2) h2) (dpa_ints ys), shp_tup xs, shp_tup ys, q H2 (Ex.refl H2)⟩
/-- len of a list, of a tuple -/
theorem ev_lenL {p : Addr} {xs : List V} (ha : Ev ta σ H (.ref p)) (h : SqL K H p xs) : Ev (tCB (rLenS K) (tCons ta tNil)) σ H (.int (xs.length : Int)) := ev_len ha h
theorem ev_lenT {p : Addr} {xs : List V} (ha : Ev ta σ H (.ref p)) (h : SqT K H p xs) : Ev (tCB (rLenS K) (tCons ta tNil)) σ H (.int (xs.length : Int)) := fun H1 e Q q =>
  ha H1 e _ fun H2 e2 => ⟨p, xs, rfl, Or.inr (ex_t (e.trans e2) h), q H2 e2⟩
/-- all of a new list of bools -/
theorem ev_allN {bs : List Bool} (ha : EvL ta σ H (bs.map V.bl)) : Ev (tCB (rAll K) (tCons ta tNil)) σ H (.bl (bs.all id)) := fun H1 e Q q =>
  ha H1 e _ fun p H2 _ e2 h2 => ⟨p, bs, rfl, sq_of h2, q H2 e2⟩
/-- [e for x in a tuple] -/
theorem el_lcT {a : Addr} {xs : List V} {tl : TE} {j : Nat} {vs : List Nat} (f : Nat → Bool) (v : Nat → V) (h : Ev tl σ H (.ref a)) (hx : SqT K H a xs) (hz : xs.length ≤ 40000) (hw : ∀ x, wipe ((wipe σ vs).set j (some x)) vs = wipe σ vs)
    (ht : ∀ (i : Nat) (x : V) H1, Ex H H1 → xs[i]? = some x → EvT t ((wipe σ vs).set j (some x)) H1 (f i)) (he : ∀ (i : Nat) (x : V) H1, Ex H H1 → xs[i]? = some x → f i = true → Ev te ((wipe σ vs).set j (some x)) H1 (v i)) :
    EvL (tLc (iTup K tl) (gName j) t te vs) σ H (given xs.length f v) := fun H0 e Q q => h H0 e _ fun H1 e1 => ⟨a, rfl, ⟨xs, ex_t (e.trans e1) hx⟩, fun Dl hD =>
  lc_tup (xs := xs) (Cw H1 f v Dl) ⟨hD, Ex.new hD, upd_same⟩ (fun i H' _ p => ex_t ((e.trans e1).trans p.2.1) hx) (fun i x H' hi p => ⟨hw x, cw_turn p (by have := (List.getElem?_eq_some_iff.mp hi).1; omega) (ht i x H1 (e.trans e1) hi) (fun hf => he i x H1 (e.trans e1) hi hf)⟩)
    (fun H' p => q Dl H' (fresh_back e1 p.1) (e1.trans p.2.1) p.2.2)⟩
theorem et_yes : EvT tYes σ H true := fun H1 _ _ q => q H1 (Ex.refl H1)
theorem given_all (n : Nat) (v : Nat → V) : given n (fun _ => true) v = (List.range n).map v := by
  unfold given
  rw [List.filter_eq_self.mpr (fun _ _ => rfl)]
variable {D : Ends} {tu tw tz : TS} {g : TG}
theorem s_asg2 {p : Addr} {x y : V} {a b : Nat} (h : Ev te σ H (.ref p)) (hp : SqT K H p [x, y]) (k : ∀ H1, Ex H H1 → D.nx ((σ.set a (some x)).set b (some y)) H1) : tAsg te (gTup K 2 (gCons (gName a) (gCons (gName b) gNil))) D σ H :=
  h H (Ex.refl H) _ fun H1 e => ⟨p, [x, y], rfl, ex_t e hp, rfl, x, [y], rfl, y, [], rfl, rfl, k H1 e⟩
theorem q_asg2 {p : Addr} {x y : V} {a b : Nat} (h : Ev te σ H (.ref p)) (hp : SqT K H p [x, y]) (k : ∀ H1, Ex H H1 → tz D ((σ.set a (some x)).set b (some y)) H1) : tSeq (tAsg te (gTup K 2 (gCons (gName a) (gCons (gName b) gNil)))) tz D σ H := s_asg2 (D := { D with nx := tz D }) h hp k
end
/-! list + list, of any list that may be read -/
def rCatL (K : PySem.W.Frag) : R2 := fun x y H Q => ∃ l b xs zs, x = .ref l ∧ y = .ref b ∧ SqL K H l xs ∧ SqL K H b zs ∧ xs.length + zs.length ≤ sizeLine ∧ ∀ p, H p = none → Q (.ref p) (upd H p (.lst (xs ++ zs)))
theorem op_catL {X : Cx} : OpR X (binaryOp .Add) (rCatL X.K) := by
  intro pins s σ H x y v u Q I rx ry h
  obtain ⟨l, b, xs, zs, rfl, rfl, hH, hB, hz, q⟩ := h
  cases rx
  cases ry
  obtain ⟨its, r, ⟨⟨cls, dd, data, sl⟩, n, e, hc, hdn, hd⟩, z⟩ := I.list hH
  obtain ⟨its2, r2, ⟨⟨cls2, dd2, data2, sl2⟩, n2, e2, hc2, hdn2, hd2⟩, z2⟩ := I.list hB
  simp only at hc hdn hd hc2 hdn2 hd2
  subst hc hdn hd hc2 hdn2 hd2
  have l1 := r.length
  have l2 := r2.length
  refine concat_meets ⟨_, e, rfl⟩ ⟨_, e2, rfl⟩ noFill_list_add seq_list_add PySem.F.slot_list_add PySem.F.entry_list_add (PySem.F.args_list_add_2 _ _) (list_addW l b its.toArray its2.toArray n n2 none none sl sl2 (by rw [List.size_toArray, List.size_toArray]; omega)) ⟨e, e2, ?_⟩
  have ea : its.toArray ++ its2.toArray = (its ++ its2).toArray := by simp
  rw [ea]
  exact ⟨.ref _, _, I.lnew (t' := s.toks) (r.append r2) (by rw [List.length_append]; omega), rfl, q _ I.fresh⟩
section
variable {K : PySem.W.Frag} {σ : L2.St} {H H' : Hp} {ta tb te tx : TE} {t u : TT} {x y z v : V} {i j : Int}
theorem el_catN {a : Addr} {xs zs : List V} (ha : Ev ta σ H (.ref a)) (h1 : SqL K H a xs) (hb : EvL tb σ H zs) (hz : xs.length + zs.length ≤ 100000) : EvL (tOp (rCatL K) ta tb) σ H (xs ++ zs) := fun H1 e Q q =>
  ha H1 e _ fun H2 e2 => hb H2 (e.trans e2) _ fun p H3 _ e3 hp => ⟨a, p, xs, zs, rfl, rfl, ex_l ((e.trans e2).trans e3) h1, sq_of hp, sz_of hz, fun p' hp' => q p' _ (fresh_back (e2.trans e3) hp') ((e2.trans e3).trans (Ex.new hp')) upd_same⟩
theorem el_sliceN {xs : List V} {tl th : TO} {lo hi : Option Int} (ha : EvL ta σ H xs) (hl : EvO tl σ H lo) (hh : EvO th σ H hi) : EvL (tSl (rSlL K) ta tl th) σ H (cutV xs lo hi) := fun H1 e Q q =>
  ha H1 e _ fun p H2 _ e2 hp => hl H2 (e.trans e2) _ fun H3 e3 => hh H3 ((e.trans e2).trans e3) _ fun H4 e4 =>
    ⟨p, xs, rfl, sq_of (e4 _ _ (e3 _ _ hp)), fun q' hq' => q q' _ (fresh_back ((e2.trans e3).trans e4) hq') (((e2.trans e3).trans e4).trans (Ex.new hq')) upd_same⟩
end
theorem cut_mem {xs : List V} {lo hi : Option Int} {k : Nat} {x : V} (h : (cutV xs lo hi)[k]? = some x) : x ∈ xs := List.mem_of_mem_drop (List.mem_of_mem_take (List.mem_of_getElem? h))
theorem cut_to {xs : List V} (n : Nat) : cutV xs none (some (n : Int)) = xs.take n := by
  unfold cutV
  rw [show HT.sIx xs.length 0 none = 0 from HT.sIx_none _ _, show HT.sIx xs.length xs.length (some (n : Int)) = min n xs.length from HT.sIx_nat xs.length xs.length n, List.drop_zero, Nat.sub_zero]
  rw [List.take_eq_take_iff]
  omega
theorem cut_from {xs : List V} (n : Nat) : cutV xs (some (n : Int)) none = xs.drop n := by
  unfold cutV
  rw [show HT.sIx xs.length 0 (some (n : Int)) = min n xs.length from HT.sIx_nat xs.length 0 n, show HT.sIx xs.length xs.length none = xs.length from HT.sIx_none _ _]
  by_cases h : n ≤ xs.length
  · rw [Nat.min_eq_left h, List.take_of_length_le (by rw [List.length_drop]; omega)]
  · rw [Nat.min_eq_right (by omega), List.drop_eq_nil_of_le (Nat.le_refl _), List.drop_eq_nil_of_le (by omega), List.take_nil]
/-- the drawn cells: the script and one more, the first few -/
theorem cells_int {ns : List Int} {n k : Nat} {x : V} (h : (cutV (ns.map V.int ++ [.int 0]) none (some (n : Int)))[k]? = some x) : ∃ c, x = .int c ∧ k < n := by
  have h1 := cut_mem h
  rw [cut_to] at h
  have h2 := (List.getElem?_eq_some_iff.mp h).1
  rw [List.length_take] at h2
  rcases List.mem_append.mp h1 with m | m
  · rw [List.mem_map] at m
    obtain ⟨c, _, e⟩ := m
    exact ⟨c, e.symm, by omega⟩
  · rw [List.mem_singleton] at m
    exact ⟨0, m, by omega⟩
/-! the same words for long lists -/
theorem bigle {n : Nat} (h : n ≤ 10000000) : n ≤ sizeLine := Nat.le_trans h (by decide)
theorem biglt {n : Nat} (h : n < 10000000) : n < sizeLine := Nat.lt_of_lt_of_le h (by decide)
section
variable {K : PySem.W.Frag} {σ : L2.St} {H H' : Hp} {ta tb te tx : TE} {t u : TT} {x y z v : V} {i j : Int}
variable {D : Ends} {tu tw tz : TS} {g : TG}
theorem s_appB {l : Addr} {xs : List V} (hl : H l = some (.lst xs)) (ha : Ev ta σ H (.ref l)) (h : Ev te σ H v) (hz : xs.length < 10000000) (k : ∀ H1, Ex H H1 → D.nx σ (upd H1 l (.lst (xs ++ [v])))) :
    tDrop (tBM K "list" rAppend ta (tCons te tNil)) D σ H := ha H (Ex.refl H) _ fun H1 e1 =>
  ⟨Or.inl ⟨rfl, xs, sq_of (e1 l _ hl)⟩, h H1 e1 _ fun H2 e2 => ⟨l, xs, v, rfl, rfl, e2 l _ (e1 l _ hl), biglt hz, k H2 (e1.trans e2)⟩⟩
theorem q_appB {l : Addr} {xs : List V} (hl : H l = some (.lst xs)) (ha : Ev ta σ H (.ref l)) (h : Ev te σ H v) (hz : xs.length < 10000000) (k : ∀ H1, Ex H H1 → tz D σ (upd H1 l (.lst (xs ++ [v])))) :
    tSeq (tDrop (tBM K "list" rAppend ta (tCons te tNil))) tz D σ H := s_appB (D := { D with nx := tz D }) hl ha h hz k
theorem s_rngB {ta : TA} {j : Nat} {lo n : Int} (h : EvA ta σ H [.int lo, .int n]) (hn : 0 ≤ lo ∧ lo ≤ 1000000000 ∧ -1000000000 ≤ n ∧ n ≤ 1000000000) (Pv : Nat → L2.St → Hp → Prop) (h0 : ∀ H1, Ex H H1 → Pv 0 σ H1)
    (hs : ∀ (i : Nat) σ' H', lo + (i : Int) < n → Pv i σ' H' → tu { D with nx := Pv (i + 1), ct := Pv (i + 1), bk := D.nx } (σ'.set j (some (.int (lo + (i : Int))))) H') (hd : ∀ σ' H', Pv (n - lo).toNat σ' H' → D.nx σ' H') : tFor (iRng2 ta) (gName j) tu D σ H :=
  h H (Ex.refl H) _ fun H1 e => ⟨lo, n, rfl, ⟨by omega, by omega, by omega, by omega⟩, for_range (lo := lo) (n := (n - lo).toNat) Pv (h0 H1 e) (fun i σ' H' hi p => hs i σ' H' (by omega) p) hd⟩
theorem q_rngB {ta : TA} {j : Nat} {lo n : Int} (h : EvA ta σ H [.int lo, .int n]) (hn : 0 ≤ lo ∧ lo ≤ 1000000000 ∧ -1000000000 ≤ n ∧ n ≤ 1000000000) (Pv : Nat → L2.St → Hp → Prop) (h0 : ∀ H1, Ex H H1 → Pv 0 σ H1)
    (hs : ∀ (i : Nat) σ' H', lo + (i : Int) < n → Pv i σ' H' → tu { D with nx := Pv (i + 1), ct := Pv (i + 1), bk := tz D } (σ'.set j (some (.int (lo + (i : Int))))) H') (hd : ∀ σ' H', Pv (n - lo).toNat σ' H' → tz D σ' H') : tSeq (tFor (iRng2 ta) (gName j) tu) tz D σ H :=
  s_rngB (D := { D with nx := tz D }) h hn Pv h0 hs hd
theorem cw_turnB {H H' : Hp} {f : Nat → Bool} {v : Nat → V} {Dl : Addr} {i : Nat} {σ2 : L2.St} (p : Cw H f v Dl i H') (hi : i < 9000000) (ht : EvT t σ2 H (f i)) (he : f i = true → Ev te σ2 H (v i)) :
    t σ2 H' fun b H3 => if b = true then te σ2 H3 fun y H4 => ∃ acc, H4 Dl = some (.lst acc) ∧ acc.length < sizeLine ∧ Cw H f v Dl (i + 1) (upd H4 Dl (.lst (acc ++ [y]))) else Cw H f v Dl (i + 1) H3 := by
  obtain ⟨p1, p2, p3⟩ := p
  refine ht H' p2 _ fun H3 e3 => ?_
  cases hf : f i with
  | true =>
    show te σ2 H3 fun y H4 => ∃ acc, H4 Dl = some (.lst acc) ∧ acc.length < sizeLine ∧ Cw H f v Dl (i + 1) (upd H4 Dl (.lst (acc ++ [y])))
    refine he hf H3 (p2.trans e3) _ fun H4 e4 => ⟨given i f v, e4 Dl _ (e3 Dl _ p3), biglt (by have := given_len i f v; omega), p1, Ex.mut ((p2.trans e3).trans e4) p1, ?_⟩
    rw [given_yes hf]
    exact upd_same
  | false =>
    show Cw H f v Dl (i + 1) H3
    refine ⟨p1, p2.trans e3, ?_⟩
    rw [given_no hf]
    exact e3 Dl _ p3
/-- [e for x in xs], [e for k in range(n)], none left out -/
theorem el_lcB {a : Addr} {xs : List V} {tl : TE} {j : Nat} {vs : List Nat} (v : Nat → V) (h : Ev tl σ H (.ref a)) (hx : SqL K H a xs) (hz : xs.length ≤ 8000000) (hw : ∀ x, wipe ((wipe σ vs).set j (some x)) vs = wipe σ vs)
    (he : ∀ (i : Nat) (x : V) H1, Ex H H1 → xs[i]? = some x → Ev te ((wipe σ vs).set j (some x)) H1 (v i)) :
    EvL (tLc (iList K tl) (gName j) tYes te vs) σ H ((List.range xs.length).map v) := by
  rw [← given_all]
  exact fun H0 e Q q => h H0 e _ fun H1 e1 => ⟨a, rfl, ⟨xs, ex_l (e.trans e1) hx⟩, fun Dl hD =>
    lc_list (xs := xs) (Cw H1 (fun _ => true) v Dl) ⟨hD, Ex.new hD, upd_same⟩ (fun i H' _ p => ex_l ((e.trans e1).trans p.2.1) hx) (fun i x H' hi p => ⟨hw x, cw_turnB p (by have := (List.getElem?_eq_some_iff.mp hi).1; omega) et_yes (fun hf => he i x H1 (e.trans e1) hi)⟩)
      (fun H' p => q Dl H' (fresh_back e1 p.1) (e1.trans p.2.1) p.2.2)⟩
theorem el_rngB {ta : TA} {j : Nat} {vs : List Nat} {n : Int} (v : Nat → V) (h : EvA ta σ H [.int n]) (hn : 0 ≤ n ∧ n ≤ 8000000) (hw : ∀ x, wipe ((wipe σ vs).set j (some x)) vs = wipe σ vs)
    (he : ∀ (i : Nat) H1, Ex H H1 → (i : Int) < n → Ev te ((wipe σ vs).set j (some (.int (i : Int)))) H1 (v i)) :
    EvL (tLc (iRng1 ta) (gName j) tYes te vs) σ H ((List.range n.toNat).map v) := by
  rw [← given_all]
  exact fun H0 e Q q => h H0 e _ fun H1 e1 => ⟨n, rfl, by omega, by omega, fun Dl hD =>
    lc_range (lo := 0) (n := n.toNat) (Cw H1 (fun _ => true) v Dl) ⟨hD, Ex.new hD, upd_same⟩ (fun i H' hi p => by
      have e0 : (0 : Int) + (i : Int) = (i : Int) := Int.zero_add _
      show wipe ((wipe σ vs).set j (some (.int ((0 : Int) + (i : Int))))) vs = wipe σ vs ∧ tYes ((wipe σ vs).set j (some (.int ((0 : Int) + (i : Int))))) H' fun b H3 => if b = true then te ((wipe σ vs).set j (some (.int ((0 : Int) + (i : Int))))) H3 fun y H4 => ∃ acc, H4 Dl = some (.lst acc) ∧ acc.length < sizeLine ∧ Cw H1 (fun _ => true) v Dl (i + 1) (upd H4 Dl (.lst (acc ++ [y]))) else Cw H1 (fun _ => true) v Dl (i + 1) H3
      rw [e0]
      exact ⟨hw _, cw_turnB p (by omega) et_yes (fun hf => he i H1 (e.trans e1) (by omega))⟩) (fun H' p => q Dl H' (fresh_back e1 p.1) (e1.trans p.2.1) p.2.2)⟩
/-- a new list times a number -/
theorem el_rep {xs : List V} {k : Int} (ha : EvL ta σ H xs) (hb : Ev tb σ H (.int k)) (h0 : 0 ≤ k) (h1 : k < 2 ^ 63) (hz : xs.length * k.toNat ≤ 10000000) : EvL (tOp rRep ta tb) σ H (List.replicate k.toNat xs).flatten := fun H1 e Q q =>
  ha H1 e _ fun p H2 _ e2 hp => hb H2 (e.trans e2) _ fun H3 e3 => ⟨p, k, xs, rfl, rfl, e3 _ _ hp, by omega, h1, bigle hz, fun p' hp' => q p' _ (fresh_back (e2.trans e3) hp') ((e2.trans e3).trans (Ex.new hp')) upd_same⟩
end
theorem cut_last {xs : List V} : cutV xs none (some (-1)) = xs.take (xs.length - 1) := by
  unfold cutV
  rw [show HT.sIx xs.length 0 none = 0 from HT.sIx_none _ _, show HT.sIx xs.length xs.length (some (-1)) = ((-1 : Int) + (xs.length : Int)).toNat from rfl, List.drop_zero, Nat.sub_zero, show ((-1 : Int) + (xs.length : Int)).toNat = xs.length - 1 by omega]
theorem at_last {xs : List V} {v : V} (h : xs[xs.length - 1]? = some v) (hl : 1 ≤ xs.length) : atI xs (-1) = some v := by
  unfold atI ixN
  rw [if_neg (by decide), if_pos (by omega)]
  show xs[_]? = some v
  rw [show ((-1 : Int) + (xs.length : Int)).toNat = xs.length - 1 by omega]
  exact h
/-! the rules with the written part named -/
section
variable {X : Cx} {K : PySem.W.Frag}
theorem kix_list (h : X.K = K) : IxR X (rIxL K) := h ▸ ix_list
theorem kix_tup (h : X.K = K) : IxR X (rIxT K) := h ▸ ix_tup
theorem kisi (h : X.K = K) : CallR X (.builtin "isinstance") (rIsi K) := h ▸ call_isi
theorem klen (h : X.K = K) : CallR X (.builtin "len") (rLenS K) := h ▸ call_len_seq
theorem kall (h : X.K = K) (hc : X.calm = true) : CallR X (.builtin "all") (rAll K) := h ▸ cr_all hc
theorem ksl_list (h : X.K = K) : SlR X (rSlL K) := h ▸ sl_list
theorem kcat (h : X.K = K) : OpR X (binaryOp .Add) (rCatL K) := h ▸ op_catL
theorem keqD (h : X.K = K) (hu : X.A.units + 64 < cLine) : OpR X (compareOp .Eq) (rEqD K) := h ▸ op_eqD hu
theorem kneD (h : X.K = K) (hu : X.A.units + 64 < cLine) : OpR X (compareOp .NotEq) (rNeD K) := h ▸ op_neD hu
end
/-! calls that hand back a new tuple -/
def RetU (xs : List V) (H : Hp) (Q : VK) : Prop := ∀ p H2, H p = none → Ex H H2 → H2 p = some (.tup xs) → Q (.ref p) H2
def SpU (sp : Sp) (vs : List V) (H : Hp) (xs : List V) : Prop := ∀ H1, Ex H H1 → ∀ Q : VK, (∀ p H2, H1 p = none → Ex H1 H2 → H2 p = some (.tup xs) → Q (.ref p) H2) → ∀ E : XK, sp vs H1 Q E
section
variable {K : PySem.W.Frag} {σ : L2.St} {H H' : Hp} {ta tb te tx : TE} {t u : TT} {x y z v : V} {i j : Int}
theorem eu_call {sp : Sp} {dvs vs xs : List V} {E : XK} {ta : TA} (h : EvA ta σ H vs) (hs : SpU sp (vs ++ dvs) H xs) : EvU (tCall sp dvs E ta) σ H xs := fun H1 e Q q =>
  h H1 e _ fun H2 e2 => hs H2 (e.trans e2) Q (fun p H3 hp e3 h3 => q p H3 (fresh_back e2 hp) (e2.trans e3) h3) E
theorem EvU.mono {xs : List V} (e : Ex H H') (h : EvU te σ H xs) : EvU te σ H' xs := fun H1 a Q q => h H1 (e.trans a) Q q
theorem ev_eqUT {b : Addr} {xs ys : List Int} (ha : EvU ta σ H (xs.map V.int)) (hb : Ev tb σ H (.ref b)) (h2 : SqT K H b (ys.map V.int)) : Ev (tOp (rEqD K) ta tb) σ H (.bl (decide (xs = ys))) := by
  rw [← eqv_ints]
  exact ev_opU1 ha hb fun p H1 hp e => fun H2 e2 _ q => ⟨.tuple (xs.map .int), .tuple (ys.map .int), .tup (st_of (e2 _ _ hp)) (dpa_ints xs), .tup (ex_t (e.trans e2) h2) (dpa_ints ys), shp_tup xs, shp_tup ys, q H2 (Ex.refl H2)⟩
/-- one argument a new tuple, another value behind it: f((..), x) and f(a, (..), x) -/
theorem ev_call_UV {sp : Sp} {dvs : List V} {E : XK} {xs : List V} (ha : EvU ta σ H xs) (hb : Ev tb σ H y) (hs : ∀ p H1, H p = none → Ex H H1 → H1 p = some (.tup xs) → SpV sp ([.ref p, y] ++ dvs) H1 z) : Ev (tCall sp dvs E (tCons ta (tCons tb tNil))) σ H z := fun H1 e Q q =>
  ha H1 e _ fun p H2 np e2 hp => hb H2 (e.trans e2) _ fun H3 e3 => hs p H3 (fresh_back e np) ((e.trans e2).trans e3) (e3 _ _ hp) H3 (Ex.refl H3) Q (fun H4 e4 => q H4 ((e2.trans e3).trans e4)) E
end
theorem eu_call_nUV {K : PySem.W.Frag} {σ : L2.St} {H : Hp} {tn tu tv : TE} {w y : V} {sp : Sp} {dvs : List V} {E : XK} {xs zs : List V} (hn : Ev tn σ H w) (ha : EvU tu σ H xs) (hb : Ev tv σ H y) (hs : ∀ p H1, H p = none → Ex H H1 → H1 p = some (.tup xs) → SpU sp ([w, .ref p, y] ++ dvs) H1 zs) : EvU (tCall sp dvs E (tCons tn (tCons tu (tCons tv tNil)))) σ H zs := fun H1 e Q q =>
  hn H1 e _ fun H2 e2 => ha H2 (e.trans e2) _ fun p H3 np e3 hp => hb H3 ((e.trans e2).trans e3) _ fun H4 e4 => hs p H4 (fresh_back (e.trans e2) np) (((e.trans e2).trans e3).trans e4) (e4 _ _ hp) H4 (Ex.refl H4) Q (fun p' H5 np' e5 hp' => q p' H5 (fresh_back ((e2.trans e3).trans e4) np') (((e2.trans e3).trans e4).trans e5) hp') E
/-! sizes -/
theorem pw_mono {x : Int} {a b : Nat} (h : x.natAbs < 2 ^ a) (hab : a ≤ b) : x.natAbs < 2 ^ b := Nat.lt_of_lt_of_le h (Nat.pow_le_pow_right (by decide) hab)
theorem pw_mul {x y : Int} {a b : Nat} (h : x.natAbs < 2 ^ a) (h2 : y.natAbs < 2 ^ b) : (x * y).natAbs < 2 ^ (a + b) := wide_lt h h2
theorem pw_add {x y : Int} {a b : Nat} (h : x.natAbs < 2 ^ a) (h2 : y.natAbs < 2 ^ b) : (x + y).natAbs < 2 ^ (max a b + 1) := by
  have h1 := pw_mono h (Nat.le_max_left a b)
  have h3 := pw_mono h2 (Nat.le_max_right a b)
  rw [Nat.pow_succ]
  omega
theorem pw_sub {x y : Int} {a b : Nat} (h : x.natAbs < 2 ^ a) (h2 : y.natAbs < 2 ^ b) : (x - y).natAbs < 2 ^ (max a b + 1) := by
  have h1 := pw_mono h (Nat.le_max_left a b)
  have h3 := pw_mono h2 (Nat.le_max_right a b)
  rw [Nat.pow_succ]
  omega
theorem pw_of {x : Int} {a : Nat} (h0 : 0 ≤ x) (h : x < ((2 ^ a : Nat) : Int)) : x.natAbs < 2 ^ a := by omega
theorem Prs.drop {K : PySem.W.Frag} {H : Hp} : ∀ {vs : List V} {ps : List (Int × Int)} (k : Nat), Prs K H vs ps → Prs K H (vs.drop k) (ps.drop k)
  | _, _, 0, h => h
  | [], [], _ + 1, _ => trivial
  | _ :: _, _ :: _, k + 1, ⟨_, h3⟩ => Prs.drop k h3
  | [], _ :: _, _ + 1, h => h.elim
  | _ :: _, [], _ + 1, h => h.elim
/-! for x in (a, b, ..): a new tuple -/
section
variable {K : PySem.W.Frag} {σ : L2.St} {H H' : Hp} {D : Ends} {tu tw tz : TS} {g : TG}
theorem s_forUT {xs : List V} {tl : TE} {j : Nat} (h : EvU tl σ H xs) (Pv : Addr → Nat → L2.St → Hp → Prop) (h0 : ∀ p H1, H p = none → Ex H H1 → H1 p = some (.tup xs) → Pv p 0 σ H1) (hl : ∀ p i σ' H', i ≤ xs.length → Pv p i σ' H' → SqT K H' p xs)
    (hs : ∀ p i x σ' H', xs[i]? = some x → Pv p i σ' H' → tu { D with nx := Pv p (i + 1), ct := Pv p (i + 1), bk := D.nx } (σ'.set j (some x)) H') (hd : ∀ p σ' H', Pv p xs.length σ' H' → D.nx σ' H') : tFor (iTup K tl) (gName j) tu D σ H :=
  h H (Ex.refl H) _ fun p H1 hp e h1 => ⟨p, rfl, ⟨xs, st_of h1⟩, for_tup (Pv p) (h0 p H1 hp e h1) (hl p) (hs p) (hd p)⟩
end
theorem pw_lit {x : Int} (h : x.natAbs < 2 ^ 64) : x.natAbs < 2 ^ 64 := h
theorem ev_call_VVU {K : PySem.W.Frag} {σ : L2.St} {H : Hp} {ta tb tu : TE} {x y z : V} {sp : Sp} {dvs : List V} {E : XK} {xs : List V} (ha : Ev ta σ H x) (hb : Ev tb σ H y) (hu : EvU tu σ H xs) (hs : ∀ p H1, H p = none → Ex H H1 → H1 p = some (.tup xs) → SpV sp ([x, y, .ref p] ++ dvs) H1 z) : Ev (tCall sp dvs E (tCons ta (tCons tb (tCons tu tNil)))) σ H z := fun H1 e Q q =>
  ha H1 e _ fun H2 e2 => hb H2 (e.trans e2) _ fun H3 e3 => hu H3 ((e.trans e2).trans e3) _ fun p H4 np e4 hp => hs p H4 (fresh_back ((e.trans e2).trans e3) np) (((e.trans e2).trans e3).trans e4) hp H4 (Ex.refl H4) Q (fun H5 e5 => q H5 (((e2.trans e3).trans e4).trans e5)) E
section
variable {X : Cx} {K : PySem.W.Frag}
theorem klist (h : X.K = K) : CallR X (.type "list") (rListS K) := h ▸ call_list_of
variable {σ : L2.St} {H H' : Hp} {ta tb te tx : TE} {x y z v : V} {D : Ends} {tu tw tz : TS}
/-- for k, x in enumerate(a list) -/
theorem s_enumV {xs : List V} {a b : Nat} {p : Addr} (h : Ev te σ H (.ref p)) (hp : SqL K H p xs) (Pv : Nat → L2.St → Hp → Prop) (h0 : ∀ H1, Ex H H1 → Pv 0 σ H1) (hl : ∀ k σ' H', k ≤ xs.length → Pv k σ' H' → SqL K H' p xs)
    (hs : ∀ k x σ' H' T, xs[k]? = some x → Pv k σ' H' → H' T = none → tu { D with nx := Pv (k + 1), ct := Pv (k + 1), bk := D.nx } ((σ'.set a (some (.int (k : Int)))).set b (some x)) (upd H' T (.tup [.int (k : Int), x]))) (hd : ∀ σ' H', Pv xs.length σ' H' → D.nx σ' H') :
    tFor (iEnum K (tCons te tNil)) (gTup K 2 (gCons (gName a) (gCons (gName b) gNil))) tu D σ H :=
  h H (Ex.refl H) _ fun H1 e => ⟨p, xs, rfl, ex_l e hp, for_it walk_enum Pv (h0 H1 e) hl (fun k x σ' H' H2 hk hP hy => by
    obtain ⟨T, y1, y2, rfl, nT, rfl, f1, f2⟩ := hy
    have e1 : V.int (k : Int) = y1 := Option.some.inj f1
    subst e1
    exact ⟨T, [.int (k : Int), y2], rfl, .inl (.inl upd_same), rfl, _, [y2], rfl, y2, [], rfl, rfl, hs k y2 σ' H' T f2 hP nT⟩) hd⟩
theorem q_enumV {xs : List V} {a b : Nat} {p : Addr} (h : Ev te σ H (.ref p)) (hp : SqL K H p xs) (Pv : Nat → L2.St → Hp → Prop) (h0 : ∀ H1, Ex H H1 → Pv 0 σ H1) (hl : ∀ k σ' H', k ≤ xs.length → Pv k σ' H' → SqL K H' p xs)
    (hs : ∀ k x σ' H' T, xs[k]? = some x → Pv k σ' H' → H' T = none → tu { D with nx := Pv (k + 1), ct := Pv (k + 1), bk := tz D } ((σ'.set a (some (.int (k : Int)))).set b (some x)) (upd H' T (.tup [.int (k : Int), x]))) (hd : ∀ σ' H', Pv xs.length σ' H' → tz D σ' H') :
    tSeq (tFor (iEnum K (tCons te tNil)) (gTup K 2 (gCons (gName a) (gCons (gName b) gNil))) tu) tz D σ H := s_enumV (D := { D with nx := tz D }) h hp Pv h0 hl hs hd
theorem ev_call_VU {sp : Sp} {dvs : List V} {E : XK} {xs : List V} (ha : Ev ta σ H x) (hu : EvU tb σ H xs) (hs : ∀ p H1, H p = none → Ex H H1 → H1 p = some (.tup xs) → SpV sp ([x, .ref p] ++ dvs) H1 z) : Ev (tCall sp dvs E (tCons ta (tCons tb tNil))) σ H z := fun H1 e Q q =>
  ha H1 e _ fun H2 e2 => hu H2 (e.trans e2) _ fun p H3 np e3 hp => hs p H3 (fresh_back (e.trans e2) np) ((e.trans e2).trans e3) hp H3 (Ex.refl H3) Q (fun H4 e4 => q H4 ((e2.trans e3).trans e4)) E
/-- both new lists -/
theorem el_catNN {xs zs : List V} (ha : EvL ta σ H xs) (hb : EvL tb σ H zs) (hz : xs.length + zs.length ≤ 1000000) : EvL (tOp (rCatL K) ta tb) σ H (xs ++ zs) := fun H1 e Q q =>
  ha H1 e _ fun p H2 np e2 hp => hb H2 (e.trans e2) _ fun q2 H3 _ e3 hq => ⟨p, q2, xs, zs, rfl, rfl, sq_of (e3 _ _ hp), sq_of hq, bigle (by omega), fun p' hp' => q p' _ (fresh_back (e2.trans e3) hp') ((e2.trans e3).trans (Ex.new hp')) upd_same⟩
/-- the first a new list, the second one read -/
theorem el_catNV {xs zs : List V} {p : Addr} (ha : EvL ta σ H xs) (hb : Ev tb σ H (.ref p)) (hp : SqL K H p zs) (hz : xs.length + zs.length ≤ 1000000) : EvL (tOp (rCatL K) ta tb) σ H (xs ++ zs) := fun H1 e Q q =>
  ha H1 e _ fun p1 H2 np e2 h1 => hb H2 (e.trans e2) _ fun H3 e3 => ⟨p1, p, xs, zs, rfl, rfl, sq_of (e3 _ _ h1), ex_l ((e.trans e2).trans e3) hp, bigle (by omega), fun p' hp' => q p' _ (fresh_back (e2.trans e3) hp') ((e2.trans e3).trans (Ex.new hp')) upd_same⟩
end
/-- a def with defaults that lets nothing out -/
theorem fd_ok {P : Program} {w : World} {K : PySem.W.Frag} {mg : Str → Option Value} {base : Heap} {x qual : Str} {params : Arguments} {body : List Stmt} {scope : Scope} {dvs : List V} {f : Addr} {fd : FuncData} {N ps : List Str} {k : Nat} {sp : Sp}
    (F : FunD K x qual params body scope dvs [] f fd) (S : FnScope N ps scope) (len : ∀ vs H Q E, sp vs H Q E → vs.length = ps.length)
    (hbody : ∀ (cdv : Value) (A : Around) (outer : List Env) (s : Shared) (H : Hp) (vs : List V) (Q : VK) (E : XK), Room k (A.deeper (envOfC qual scope s.heap.objs.size f cdv)) → sp vs H Q E →
      ∃ t, PSs (cxOf CX0 P w K mg base N qual scope f cdv A outer s H E).nox body t ∧ t { nx := fun _ H' => Q .non H', rt := Q } (start N vs) H) : FnOk P w K mg base CX0 (k + 1) f fd ps sp :=
  F.ok S len fun cdv A outer s H vs Q E hr h => by
    obtain ⟨t, h1, h2⟩ := hbody cdv A outer s H vs Q E hr h
    exact ⟨t, h1.nox, h2⟩
/-- a list that is changed is none of the pairs -/
theorem Prs.upd {K : PySem.W.Frag} {H : Hp} {p : Addr} {xs ys : List V} (hp : H p = some (.lst xs)) : ∀ {vs : List V} {ps : List (Int × Int)}, Prs K H vs ps → Prs K (L2.upd H p (.lst ys)) vs ps
  | [], [], _ => trivial
  | _ :: _, _ :: _, ⟨⟨a, h1, h2⟩, h3⟩ => ⟨⟨a, h1, by
      rw [upd_ne (ne_of h2 hp (by intro z; cases z))]
      exact h2⟩, Prs.upd hp h3⟩
  | [], _ :: _, h => h.elim
  | _ :: _, [], h => h.elim
theorem rv_isN {x : V} {H : Hp} : RV (fun x y H Q => y = .non ∧ Q (.bl (decide (x = .non))) H) x .non H (.bl (decide (x = .non))) := fun H1 _ _ q => ⟨rfl, q H1 (Ex.refl H1)⟩
theorem rv_notN {x : V} {H : Hp} : RV (fun x y H Q => y = .non ∧ Q (.bl (!decide (x = .non))) H) x .non H (.bl (!decide (x = .non))) := fun H1 _ _ q => ⟨rfl, q H1 (Ex.refl H1)⟩
theorem at_nat1 {x y : V} : atI [x, y] 1 = some y := atI_nat (j := 1) rfl
theorem knotIn {X : Cx} {K : PySem.W.Frag} (h : X.K = K) : OpR X (compareOp .NotIn) (rIn K true) := h ▸ op_notIn_seq
theorem inV_ints {x : Int} {ys : List Int} (h : x ∈ ys) : inV (.int x) (ys.map V.int) = true := by
  unfold inV
  rw [List.any_map, List.any_eq_true]
  exact ⟨x, h, by simp [eqV]⟩
theorem flat_ints (ys : List Int) : (ys.map V.int).all flatV = true := by
  rw [List.all_map, List.all_eq_true]
  intro x _
  rfl
section
variable {K : PySem.W.Frag} {σ : L2.St} {H H' : Hp} {ta tb tc : TE} {i j k : Int}
theorem ev_abs (ha : Ev ta σ H (.int i)) : Ev (tCB (fun xs H Q => ∃ i, xs = [.int i] ∧ Q (.int (if i < 0 then -i else i)) H) (tCons ta tNil)) σ H (.int (if i < 0 then -i else i)) := fun H1 e Q q =>
  ha H1 e _ fun H2 e2 => ⟨i, rfl, q H2 e2⟩
/-- a < b <= c -/
theorem et_chain (ha : Ev ta σ H (.int i)) (hb : Ev tb σ H (.int j)) (hc : Ev tc σ H (.int k)) : EvT (tTest (tChain (rI0 fun i j => .bl (decide (i < j))) (rI0 fun i j => .bl (decide (i ≤ j))) ta tb tc)) σ H (decide (i < j) && decide (j ≤ k)) := fun H1 e Q q =>
  ha H1 e _ fun H2 e2 => hb H2 (e.trans e2) _ fun H3 e3 => ⟨i, j, rfl, rfl, decide (i < j), rfl, by
    by_cases z : i < j
    · rw [decide_eq_true z] at q ⊢
      exact hc H3 ((e.trans e2).trans e3) _ fun H4 e4 => ⟨j, k, rfl, rfl, decide (j ≤ k), rfl, q H4 ((e2.trans e3).trans e4)⟩
    · rw [decide_eq_false z] at q ⊢
      exact ⟨false, rfl, q H3 (e2.trans e3)⟩⟩
end
/-! more words: i & 1, i % j and i // j of any sign, a read list times a number, two names at once -/
def rAndK : R2 := fun x y H Q => ∃ (i : Int) (k : Nat), x = .int i ∧ y = .int (2 ^ k - 1) ∧ Q (.int (i % 2 ^ k)) H
theorem op_andK {X : Cx} : OpR X (binaryOp .BitAnd) rAndK := op_andM
section
variable {K : PySem.W.Frag} {σ : L2.St} {H H' : Hp} {ta tb tc te : TE} {i j k : Int} {x y v : V} {D : Ends} {tu tw tz : TS} {g : TG}
theorem ev_and1 (ha : Ev ta σ H (.int i)) : Ev (tOp rAndK ta (tC (.int 1))) σ H (.int (i % 2)) := ev_op ha ev_c fun H1 e Q q => ⟨i, 1, rfl, rfl, q H1 (Ex.refl H1)⟩
theorem ev_modN (ha : Ev ta σ H (.int i)) (hb : Ev tb σ H (.int j)) (hc : j ≠ 0) : Ev (tOp (rI (fun _ j => j ≠ 0) fun i j => .int (i.fmod j)) ta tb) σ H (.int (i.fmod j)) := ev_op ha hb (rv_I hc)
theorem ev_divN (ha : Ev ta σ H (.int i)) (hb : Ev tb σ H (.int j)) (hc : CDivN i j) : Ev (tOp (rI CDivN fun i j => .int (i.fdiv j)) ta tb) σ H (.int (i.fdiv j)) := ev_op ha hb (rv_I hc)
theorem el_repV {p : Addr} {xs : List V} {n : Nat} (ha : Ev ta σ H (.ref p)) (hp : H p = some (.lst xs)) (hb : Ev tb σ H (.int i)) (hi : i = (n : Int)) (h1 : n < 1000000000) (hz : xs.length * n ≤ 10000000) : EvL (tOp rRep ta tb) σ H (List.replicate n xs).flatten := fun H1 e Q q =>
  ha H1 e _ fun H2 e2 => hb H2 (e.trans e2) _ fun H3 e3 => by
    subst hi
    exact ⟨p, (n : Int), xs, rfl, rfl, e3 _ _ (e2 _ _ (e _ _ hp)), by omega, by omega, by rw [Int.toNat_natCast]; exact bigle hz, fun p' hp' => by
      rw [Int.toNat_natCast]
      exact q p' _ (fresh_back (e2.trans e3) hp') ((e2.trans e3).trans (Ex.new hp')) upd_same⟩
theorem s_asgU2 {a b : Nat} (h : EvU te σ H [x, y]) (k : ∀ H1, Ex H H1 → D.nx ((σ.set a (some x)).set b (some y)) H1) : tAsg te (gTup K 2 (gCons (gName a) (gCons (gName b) gNil))) D σ H :=
  h H (Ex.refl H) _ fun p H1 hp e h1 => ⟨p, [x, y], rfl, st_of h1, rfl, x, [y], rfl, y, [], rfl, rfl, k H1 e⟩
theorem q_asgU2 {a b : Nat} (h : EvU te σ H [x, y]) (k : ∀ H1, Ex H H1 → tz D ((σ.set a (some x)).set b (some y)) H1) : tSeq (tAsg te (gTup K 2 (gCons (gName a) (gCons (gName b) gNil)))) tz D σ H := s_asgU2 (D := { D with nx := tz D }) h k
theorem q_par {ta : TA} {i j : Nat} (h : EvA ta σ H [x, y]) (k : ∀ H1, Ex H H1 → tz D ((σ.set i (some x)).set j (some y)) H1) : tSeq (tPar i j ta) tz D σ H := h H (Ex.refl H) _ fun H1 e => ⟨x, y, rfl, k H1 e⟩
theorem s_appUB {l : Addr} {xs ys : List V} (hl : H l = some (.lst xs)) (ha : Ev ta σ H (.ref l)) (h : EvU te σ H ys) (hz : xs.length < 10000000) (k : ∀ p H1, H p = none → Ex H H1 → H1 p = some (.tup ys) → D.nx σ (upd H1 l (.lst (xs ++ [.ref p])))) :
    tDrop (tBM K "list" rAppend ta (tCons te tNil)) D σ H := ha H (Ex.refl H) _ fun H1 e1 =>
  ⟨Or.inl ⟨rfl, xs, sq_of (e1 l _ hl)⟩, h H1 e1 _ fun p H2 np e2 hp => ⟨l, xs, .ref p, rfl, rfl, e2 l _ (e1 l _ hl), biglt hz, k p H2 (fresh_back e1 np) (e1.trans e2) hp⟩⟩
/-- a pair whose second is a new list -/
theorem s_retVL {xs : List V} (ha : Ev ta σ H x) (hb : EvL tb σ H xs) (k : ∀ p q H1, H p = none → H q = none → p ≠ q → Ex H H1 → H1 p = some (.tup [x, .ref q]) → H1 q = some (.lst xs) → D.rt (.ref p) H1) : tRet (tTup (tCons ta (tCons tb tNil))) D σ H :=
  ha H (Ex.refl H) _ fun H1 e1 => hb H1 e1 _ fun q H2 nq e2 hq => ⟨sz_of (by show (2 : Nat) ≤ 100000; decide), fun p np => by
    have ne : q ≠ p := ne_of_none hq np
    exact k p q _ (fresh_back (e1.trans e2) np) (fresh_back e1 nq) ne.symm ((e1.trans e2).trans (Ex.new np)) upd_same (by rw [upd_ne ne]; exact hq)⟩
end
/-- addresses that were not there -/
def Fr (H : Hp) (xs : List V) : Prop := ∀ a, V.ref a ∈ xs → H a = none
theorem Fr.nil {H : Hp} : Fr H [] := fun _ h => nomatch h
theorem Fr.snoc {H : Hp} {xs : List V} {p : Addr} (h : Fr H xs) (hp : H p = none) : Fr H (xs ++ [.ref p]) := fun a ha => by
  rcases List.mem_append.mp ha with h1 | h1
  · exact h a h1
  · rw [List.mem_singleton] at h1
    cases h1
    exact hp
theorem Fr.back {H H' : Hp} {xs : List V} (e : Ex H H') (h : Fr H' xs) : Fr H xs := fun a ha => fresh_back e (h a ha)
end Rl
set_option Elab.async false
set_option linter.all false
set_option maxRecDepth 100000
set_option maxHeartbeats 4000000
namespace Rl
open PySem PySem.Spec PyProof.Rows L2 Evl

/-! ### an exception that was caught, as a value -/
/-- the exception of the class cls at a -/
def ExI (cls : Value) (a : Addr) : HO := .ext fun h => ∃ (oe : Obj) (vs : Array Value), h.get? a = some oe ∧ Zc cls none oe ∧ oe.data = .fields vs
theorem exI_ok {P : Program} {w : World} {H : Hp} {h : Heap} {a : Addr} {cls : Value} {oe : Obj} {vs : Array Value} (e : h.get? a = some oe) (z : Zc cls none oe) (d : oe.data = .fields vs) : ObjOk P w H h a (ExI cls a) :=
  ⟨⟨oe, vs, e, z, d⟩, ⟨oe, e⟩, fun _ _ ⟨o, v, q, r⟩ k => ⟨o, v, k o q, r⟩⟩
section
variable {X : Cx} {pins : List (Addr × Obj)} {σ : L2.St} {H : Hp} {sI s' s : Shared}
theorem inv_track {a : Addr} {cls : Value} {oe : Obj} {vs : Array Value} (I : Inv X pins σ H sI) (J : Inv X pins σ H s') (n : sI.heap.get? a = none) (e : s'.heap.get? a = some oe) (z : Zc cls none oe) (d : oe.data = .fields vs)
    (na : H a = none) (hx : X.ex = []) (nL : a ≠ X.env.locals) : Inv X pins σ (upd H a (ExI cls a)) s' := by
  have n0 : X.s_0.heap.get? a = none := by
    cases q : X.s_0.heap.get? a with
    | none => rfl
    | some o =>
      obtain ⟨o', q'⟩ := I.base.there a o q (by rw [hx]; exact fun z => nomatch z)
      rw [n] at q'; cases q'
  refine ⟨J.ok, J.os, J.bare, ⟨J.base.keep, J.base.slot, fun b o q m hb => ?_, J.base.there, fun b xs q => ?_, fun b o u q => ?_, fun b ps q => ?_⟩, J.loc, J.cell, ?_, fun x c q => ?_, fun p hp => ?_, ?_, J.len⟩
  · rw [upd_ne (fun y => by rw [y, n0] at q; cases q)]; exact J.base.free b o q m hb
  · have r := J.base.tups b xs q
    rw [upd_ne (ne_of_none r na)]; exact r
  · have r := J.base.frzs b o u q
    rw [upd_ne (ne_of_none r na)]; exact r
  · obtain ⟨m, r⟩ := J.base.tbls b ps q
    exact ⟨m, by rw [upd_ne (ne_of_none r na)]; exact r⟩
  · rw [upd_ne (Ne.symm nL)]; exact J.free
  · obtain ⟨v, o, ho, _⟩ := I.cell x c q
    rw [upd_ne (fun y => by rw [y, n] at ho; cases ho)]; exact J.freeC x c q
  · obtain ⟨q1, q2, q3, q4, q5⟩ := J.pin p hp
    obtain ⟨r1, _⟩ := I.pin p hp
    exact ⟨q1, by rw [upd_ne (fun y => by rw [y, n] at r1; cases r1)]; exact q2, q3, q4, q5⟩
  · exact L2.HOk.laidN J.hok (fun _ _ y => y) na (exI_ok e z d)
theorem inv_suite (I : Inv X pins σ H s) (a : Addr) : Inv (X.suite a (X.pn ++ pins)) [] σ H s :=
  ⟨I.ok.suite _ _, I.os, I.bare, I.base, I.loc, I.cell, I.free, I.freeC, fun p hp => I.pin p (by rw [List.append_nil] at hp; exact hp), I.hok, I.len⟩
theorem inv_unsuite {a : Addr} {pn' : List (Addr × Obj)} (I : Inv (X.suite a (X.pn ++ pins)) pn' σ H s) (ok : X.Ok) : Inv X pins σ H s :=
  ⟨ok, I.os, I.bare, I.base, I.loc, I.cell, I.free, I.freeC, fun p hp => I.pin p (List.mem_append_left _ hp), I.hok, I.len⟩
end
/-- what the clause 'except x as n' wishes: the exception is a thing of ours from then on -/
def wKeep (K : PySem.W.Frag) (c : Value) (i : Nat) (ts : TS) (D : Ends) : WX := fun cls d σ H =>
  PySem.W.exmOne K cls c = some true ∧ d = none ∧ ∀ a, H a = none → ts { nx := fun σ' H' => D.nx (σ'.set i none) H', rt := D.rt, bk := fun σ' H' => D.bk (σ'.set i none) H', ct := fun σ' H' => D.ct (σ'.set i none) H' } (σ.set i (some (.ref a))) (upd H a (ExI cls a))
section
variable {X : Cx} {x n : Str} {c : Value} {i : Nat} {body suite : List Stmt} {b₀ : Stmt} {np pos pos' : Pos} {tb : WX → TS} {ts : TS}
theorem ps_try_keep (hs : X.stack = X.env :: X.outer) (hf : X.env.frame = some X.env.locals) (hx : X.ex = []) (hN : X.N.Nodup) (hi : X.N[i]? = some n) (hln : X.env.kindOf n = some .local) (hc : Names X x c)
    (hb : ∀ (W : WX) (pn : List (Addr × Obj)) (xe : Value → Shared → Prop), Takes (X.tr pn xe) W → PassesOwn (model X.prog X.w) X.A X.env xe → PSs (X.tr pn xe) body (tb W))
    (hsu : ∀ (a : Addr) (pn : List (Addr × Obj)), PSs (X.suite a pn) (b₀ :: suite) ts) :
    PS X (.Try body [.ExceptHandler (some (.Name x np)) (some n) (b₀ :: suite) pos'] [] [] pos) (fun D σ H => tb (wKeep X.K c i ts D) D σ H) := by
  refine ⟨fun pins s σ H D I h => ?_⟩
  have ok := I.ok
  have hfr : X.A.frames = some (X.env :: X.outer) := by rw [ok.frames, hs]
  have hloc : Loc X.env.scope n := .inl hln
  refine wpAny_Try_except ?_
  refine wpAny_mono ((hb (wKeep X.K c i ts D) (X.pn ++ pins) (fun e s₁ => wpAny (model X.prog X.w) X.A (noteFrame e X.env) (fun _ s₂ => wpAny (model X.prog X.w) X.A (setFlight e none) (fun _ s₃ =>
    wpAny (model X.prog X.w) X.A (handleBy e X.env [.ExceptHandler (some (.Name x np)) (some n) (b₀ :: suite) pos']) (SP X pins D) X.xe s₃) X.xe s₂) X.xe s₁) (fun u s' xx => ?_) PassesOwn.looking).run [] s σ H D (I.toTry _) h) (fun f s1 hsp => ?_) (fun e s1 he => he)
  · -- the catch
    obtain ⟨a, B, sI, pins', σ', H', cls, d, rfl, J', nb, up, sky, na, os, ag, hb1, rfl, hyes⟩ := xx
    have J : Inv X pins σ' H' sI := J'.ofTry ok
    have sky' : Sky B (X.env :: X.outer) a (Zc cls none) X.env.locals s'.heap := by rw [← hs]; exact sky
    show wpAny (model X.prog X.w) X.A (noteFrame (.ref a) X.env) _ _ _
    refine Sky.land Zc.steady hfr hf sky' fun h3 fl3 up3 => ?_
    have J3 : Inv X pins σ' H' { s' with heap := h3 } := J.landed nb fl3.1 (up.trans up3) os ag
    obtain ⟨oe3, vs3, he3, hz3, hd3⟩ := fl3.there
    have notFr : ∀ {h : Heap} {o : Obj} {vs : Array Value}, h.FunFrames B (X.env :: X.outer) → h.get? a = some o → o.data = .fields vs → a ∉ frs (X.env :: X.outer) := fun {h o vs} ff e dd hm => by
      obtain ⟨_, o', e', hnf⟩ := ff.mem hm
      rw [e] at e'; cases e'
      exact hnf _ dd
    have nfr := notFr fl3.2.2.1 he3 hd3
    have nL : a ≠ X.env.locals := fun z => nfr (List.mem_filterMap.mpr ⟨X.env, List.mem_cons_self, by rw [hf, z]⟩)
    have nF : a ∉ X.fs := fun hm => by
      obtain ⟨e, he, q⟩ := List.mem_filterMap.mp hm
      exact nfr (List.mem_filterMap.mpr ⟨e, List.mem_cons_of_mem _ he, q⟩)
    have nI : sI.heap.get? a = none := by
      cases q : sI.heap.get? a with
      | none => rfl
      | some o =>
        have q' := nb a o q (by rw [hs]; exact nfr)
        rw [fl3.2.1] at q'; cases q'
    have S3 := J3.suite he3 hd3 na nL nF
    refine wpAny_handleBy_cons (codeAny_handlers_test ?_) (by intro q; cases q)
    have LT : PySem.W.Looks (model X.prog X.w) h3 (typeOf (.ref a)) cls := fun A Q E s k q => wpAny_typeOf_ref (k _ _ he3) (by rw [hz3.1]; exact q)
    have LM := PySem.W.exm_one (M := model X.prog X.w) (J3.kIn) LT hb1
    have test : ∀ {Q : Value → Shared → Prop} {E : Value → Shared → Prop}, Q c { s' with heap := h3 } → wpAny (model X.prog X.w) (X.A.mark (some (.ref a))) (eval (.Name x np) X.env) Q E { s' with heap := h3 } := fun {Q E} q => by
      obtain ⟨hg, hdbg, hm | ⟨hm, hv, hnn⟩⟩ := hc
      · exact ld_glob (X := X.suite a ((a, oe3) :: (X.pn ++ pins))) S3 hg hm q hdbg
      · exact ld_blt (X := X.suite a ((a, oe3) :: (X.pn ++ pins))) S3 hg hm hv q hnn hdbg
    refine test (LM.here ?_)
    refine codeAny_handlers_suite_as ?_
    refine HandSPX.lands_againZ fl3 fun h4 fl4 up4 => ?_
    have J4 : Inv X pins σ' H' { s' with heap := h4 } := J.landed nb fl4.1 ((up.trans up3).trans up4) os ag
    obtain ⟨oe4, vs4, he4, hz4, hd4⟩ := fl4.there
    have S4 := inv_suite (inv_track J J4 nI he4 hz4 hd4 na hx nL) a
    refine store_ok (X := X.suite a (X.pn ++ pins)) (v := .ref a) S4 hN hi hloc rfl (fun s5 S5 => ?_) (.inr hln)
    refine wpAny_mono ((hsu a (X.pn ++ pins)).run [] s5 _ _ _ S5 (hyes a na)) (fun f s6 hsp => ?_) (fun _ _ z => False.elim z)
    have end_ : ∀ {σ6 : L2.St} {H6 : Hp} {Q : Shared → Prop}, Inv (X.suite a (X.pn ++ pins)) [] σ6 H6 s6 → (∀ s7, Inv X pins (σ6.set i none) H6 s7 → Q s7) →
        wpAny (model X.prog X.w) X.A (do bindName X.env n .none; unbindBehindTheSuite X.env n pos') (fun _ s7 => Q s7) X.xe s6 := fun {σ6 H6 Q} S6 hq => gone_ok (inv_unsuite S6 ok) hN hi hln hq
    cases f with
    | next =>
      obtain ⟨σ6, H6, S6, q6⟩ := hsp
      exact end_ S6 fun s7 J7 => ⟨_, _, J7, q6⟩
    | brk =>
      obtain ⟨σ6, H6, S6, q6⟩ := hsp
      exact end_ S6 fun s7 J7 => ⟨_, _, J7, q6⟩
    | cont =>
      obtain ⟨σ6, H6, S6, q6⟩ := hsp
      exact end_ S6 fun s7 J7 => ⟨_, _, J7, q6⟩
    | ret u =>
      obtain ⟨v6, σ6, H6, S6, r6, q6⟩ := hsp
      exact end_ S6 fun s7 J7 => ⟨_, _, _, J7, r6, q6⟩
  · cases f with
    | next =>
      obtain ⟨σ', H', J', q⟩ := hsp
      exact wpAny_execs_nil ⟨σ', H', J'.ofTry ok, q⟩
    | brk =>
      obtain ⟨σ', H', J', q⟩ := hsp
      exact ⟨σ', H', J'.ofTry ok, q⟩
    | cont =>
      obtain ⟨σ', H', J', q⟩ := hsp
      exact ⟨σ', H', J'.ofTry ok, q⟩
    | ret u =>
      obtain ⟨v, σ', H', J', r, q⟩ := hsp
      exact ⟨v, σ', H', J'.ofTry ok, r, q⟩
end
/-- isinstance(x, c), x also an exception that was caught -/
def rIsW (K : PySem.W.Frag) : List V → Hp → VK → Prop := fun xs H Q => ∃ (x c : V) (t u : Value) (b : Bool), xs = [x, c] ∧ ClsV c u ∧ (TyX K H x t ∨ ∃ D a, x = .ref a ∧ H a = some (ExI (.ref D) a) ∧ t = .ref D ∧ ExcC K D) ∧ PySem.W.kitOne K t u = some b ∧ Q (.bl b) H
section
variable {X : Cx}
theorem call_isw : CallR X (.builtin "isinstance") (rIsW X.K) := by
  intro pins s σ H xs us Q I r h
  obtain ⟨x, c, t, u, b, rfl, k, ty, e, q⟩ := h
  rcases ty with ty | ⟨D, a, rfl, ha, rfl, C⟩
  · exact call_isi pins s σ H _ us Q I r ⟨x, c, t, u, b, rfl, k, ty, e, q⟩
  · obtain ⟨u1, u2, rfl, r1, r2⟩ := vals2 r
    have e2 := k.eq r2
    subst e2
    cases (show u1 = Value.ref a from r1)
    obtain ⟨⟨oe, vs, h1, ⟨h2, h3⟩, h4⟩, _, _⟩ := I.hok a _ ha
    have J : PySem.W.InstAt s.heap a oe D none := by
      obtain ⟨oc, od, oda, osl⟩ := oe
      dsimp only at h2 h3 h4
      subst h2 h3 h4
      exact ⟨h1, rfl, rfl, trivial⟩
    exact PySem.W.kia_one (PySem.W.handS_kitx_exc C.hg C.hk C.hs C.hd C.ha C.hn C.ht C.hm) I.kIn J e (fun z => nomatch z) fun tk => ⟨.bl b, H, I.kept (t' := tk) fun _ _ z => z, rfl, q⟩
end
end Rl
set_option Elab.async false
set_option linter.all false
set_option maxRecDepth 100000
set_option maxHeartbeats 4000000
namespace Rl
open PySem PySem.Spec PyProof.Rows L2 Evl

/-! ### things by what they are, whatever their addresses -/
inductive D where
  | non | bl (b : Bool) | int (i : Int) | str (s : Str) | lst (xs : List D) | tup (xs : List D) | dct
mutual
def Has (H : Hp) : D → V → Prop
  | .non, v => v = .non
  | .bl b, v => v = .bl b
  | .int i, v => v = .int i
  | .str s, v => v = .str s
  | .lst xs, v => ∃ a vs, v = .ref a ∧ H a = some (.lst vs) ∧ HasA H xs vs
  | .tup xs, v => ∃ a vs, v = .ref a ∧ H a = some (.tup vs) ∧ HasA H xs vs
  | .dct, v => ∃ a, v = .ref a ∧ H a = some (.dK [])
def HasA (H : Hp) : List D → List V → Prop
  | [], vs => vs = []
  | d :: ds, vs => ∃ v r, vs = v :: r ∧ Has H d v ∧ HasA H ds r
end
mutual
theorem Has.mono {H H' : Hp} (e : Ex H H') : ∀ {d : D} {v : V}, Has H d v → Has H' d v
  | .non, _, h => h
  | .bl _, _, h => h
  | .int _, _, h => h
  | .str _, _, h => h
  | .lst _, _, ⟨a, vs, h1, h2, h3⟩ => ⟨a, vs, h1, e _ _ h2, HasA.mono e h3⟩
  | .tup _, _, ⟨a, vs, h1, h2, h3⟩ => ⟨a, vs, h1, e _ _ h2, HasA.mono e h3⟩
  | .dct, _, ⟨a, h1, h2⟩ => ⟨a, h1, e _ _ h2⟩
theorem HasA.mono {H H' : Hp} (e : Ex H H') : ∀ {ds : List D} {vs : List V}, HasA H ds vs → HasA H' ds vs
  | [], _, h => h
  | _ :: _, _, ⟨v, r, h1, h2, h3⟩ => ⟨v, r, h1, Has.mono e h2, HasA.mono e h3⟩
end
theorem HasA.len {H : Hp} : ∀ {ds : List D} {vs : List V}, HasA H ds vs → vs.length = ds.length
  | [], _, h => by cases h; rfl
  | _ :: _, _, ⟨v, r, h1, _, h3⟩ => by
    subst h1
    rw [List.length_cons, List.length_cons, HasA.len h3]
theorem HasA.get {H : Hp} : ∀ {ds : List D} {vs : List V}, HasA H ds vs → ∀ {n : Nat} {d : D}, ds[n]? = some d → ∃ v, vs[n]? = some v ∧ Has H d v
  | [], _, _, _, _, h => by cases h
  | x :: xs, _, ⟨v, r, h1, h2, h3⟩, 0, d, h => by
    cases h
    exact ⟨v, by rw [h1]; rfl, h2⟩
  | x :: xs, _, ⟨v, r, h1, h2, h3⟩, n + 1, d, h => by
    obtain ⟨u, hu, q⟩ := HasA.get h3 (n := n) h
    exact ⟨u, by rw [h1]; exact hu, q⟩
def dty : D → String
  | .non => "NoneType" | .bl _ => "bool" | .int _ => "int" | .str _ => "str" | .lst _ => "list" | .tup _ => "tuple" | .dct => "dict"
theorem has_ty {K : PySem.W.Frag} {H : Hp} {d : D} {v : V} (h : Has H d v) : TyX K H v (.type (dty d)) := by
  cases d with
  | non => cases (show v = .non from h); exact .base .non
  | bl b => cases (show v = .bl b from h); exact .base (.bl b)
  | int i => cases (show v = .int i from h); exact .base (.int i)
  | str s => cases (show v = .str s from h); exact .base (.str s)
  | lst xs => obtain ⟨a, vs, rfl, q, _⟩ := h; exact .base (.lst q)
  | tup xs => obtain ⟨a, vs, rfl, q, _⟩ := h; exact .base (.tup q)
  | dct => obtain ⟨a, rfl, q⟩ := h; exact .base (.dK q)
/-! evaluation to such a thing -/
def EvD (te : TE) (σ : L2.St) (H : Hp) (d : D) : Prop := ∀ H1, Ex H H1 → ∀ Q : VK, (∀ v H2, Ex H1 H2 → Has H2 d v → Q v H2) → te σ H1 Q
def EvAD (ta : TA) (σ : L2.St) (H : Hp) (ds : List D) : Prop := ∀ H1, Ex H H1 → ∀ Q : List V → Hp → Prop, (∀ vs H2, Ex H1 H2 → HasA H2 ds vs → Q vs H2) → ta σ H1 Q
section
variable {K : PySem.W.Frag} {σ : L2.St} {H H' : Hp} {ta tb te tx : TE} {t u : TT} {x y z v : V} {i j : Int} {d : D} {ds : List D} {tr : TA}
theorem EvD.mono (e : Ex H H') (h : EvD te σ H d) : EvD te σ H' d := fun H1 a Q q => h H1 (e.trans a) Q q
theorem EvAD.mono (e : Ex H H') (h : EvAD tr σ H ds) : EvAD tr σ H' ds := fun H1 a Q q => h H1 (e.trans a) Q q
theorem ed_ev (h : Ev te σ H v) (hv : Has H d v) : EvD te σ H d := fun H1 e Q q => h H1 e _ fun H2 e2 => q v H2 e2 (hv.mono (e.trans e2))
theorem ed_var {i : Nat} (h : σ[i]? = some (some v)) (hv : Has H d v) : EvD (tVar i) σ H d := ed_ev (ev_var h) hv
theorem ed_non : EvD (tC .non) σ H .non := ed_ev ev_c rfl
theorem ed_bl {b : Bool} : EvD (tC (.bl b)) σ H (.bl b) := ed_ev ev_c rfl
theorem ed_str {s : Str} : EvD (tC (.str s)) σ H (.str s) := ed_ev ev_c rfl
theorem ed_int (h : Ev te σ H (.int i)) : EvD te σ H (.int i) := ed_ev h rfl
theorem ea_nilD : EvAD tNil σ H [] := fun H1 _ _ q => q [] H1 (Ex.refl H1) rfl
theorem ea_consD (h : EvD te σ H d) (hr : EvAD tr σ H ds) : EvAD (tCons te tr) σ H (d :: ds) := fun H1 e Q q =>
  h H1 e _ fun v H2 e2 hv => hr H2 (e.trans e2) _ fun vs H3 e3 hs => q (v :: vs) H3 (e2.trans e3) ⟨v, vs, rfl, hv.mono e3, hs⟩
theorem ed_lst (h : EvAD tr σ H ds) (hl : ds.length ≤ 100000 := by first | decide | simp) : EvD (tLst tr) σ H (.lst ds) := fun H1 e Q q =>
  h H1 e _ fun vs H2 e2 hs => ⟨by rw [hs.len]; exact sz_of hl, fun p hp => q (.ref p) _ (e2.trans (Ex.new hp)) ⟨p, vs, rfl, upd_same, hs.mono (Ex.new hp)⟩⟩
theorem ed_tup (h : EvAD tr σ H ds) (hl : ds.length ≤ 100000 := by first | decide | simp) : EvD (tTup tr) σ H (.tup ds) := fun H1 e Q q =>
  h H1 e _ fun vs H2 e2 hs => ⟨by rw [hs.len]; exact sz_of hl, fun p hp => q (.ref p) _ (e2.trans (Ex.new hp)) ⟨p, vs, rfl, upd_same, hs.mono (Ex.new hp)⟩⟩
theorem ed_dct : EvD tDNewK σ H .dct := fun H1 e Q q => fun p hp => q (.ref p) _ (Ex.new hp) ⟨p, rfl, upd_same⟩
theorem ed_ixL {n : Nat} (h : EvD ta σ H (.lst ds)) (hi : Ev tb σ H (.int i)) (hn : i = (n : Int)) (hd : ds[n]? = some d) : EvD (tOp (rIxL K) ta tb) σ H d := fun H1 e Q q =>
  h H1 e _ fun v H2 e2 ⟨a, vs, h1, h2, h3⟩ => hi H2 (e.trans e2) _ fun H3 e3 => by
    obtain ⟨u, hu, hq⟩ := h3.get hd
    subst h1
    exact ⟨a, vs, i, u, rfl, rfl, sq_of (e3 _ _ h2), at_of hn hu, q u H3 (e2.trans e3) (hq.mono e3)⟩
theorem ed_if {b : Bool} (h : EvT t σ H b) (h1 : b = true → EvD ta σ H d) (h2 : b = false → EvD tb σ H d) : EvD (tIf t ta tb) σ H d := fun H1 e Q q => h H1 e _ fun H2 e2 => by
  cases b with
  | true => rw [if_pos rfl]; exact h1 rfl H2 (e.trans e2) _ fun v H3 e3 hv => q v H3 (e2.trans e3) hv
  | false => rw [if_neg Bool.false_ne_true]; exact h2 rfl H2 (e.trans e2) _ fun v H3 e3 hv => q v H3 (e2.trans e3) hv
/-- isinstance by a built-in class -/
theorem ev_isD {n : String} {b : Bool} (ha : Ev ta σ H x) (hv : Has H d x) (hk : kitB (dty d) n = some b) : Ev (tCB (rIsi K) (tCons ta (tCons (tC (.ty n)) tNil))) σ H (.bl b) := ev_isi ha (fun H1 e => has_ty (hv.mono e)) hk
/-- a call whose answer is one thing -/
theorem ev_callD {sp : Sp} {dvs : List V} {E : XK} (h : EvAD tr σ H ds) (hs : ∀ vs H1, Ex H H1 → HasA H1 ds vs → SpV sp (vs ++ dvs) H1 z) : Ev (tCall sp dvs E tr) σ H z := fun H1 e Q q =>
  h H1 e _ fun vs H2 e2 hv => hs vs H2 (e.trans e2) hv H2 (Ex.refl H2) _ (fun H3 e3 => q H3 (e2.trans e3)) E
variable {De : Ends} {tz : TS}
theorem s_asgD {i : Nat} (h : EvD te σ H d) (k : ∀ v H1, Ex H H1 → Has H1 d v → De.nx (σ.set i (some v)) H1) : tAsg te (gName i) De σ H := h H (Ex.refl H) _ fun v H1 e hv => k v H1 e hv
theorem q_asgD {i : Nat} (h : EvD te σ H d) (k : ∀ v H1, Ex H H1 → Has H1 d v → tz De (σ.set i (some v)) H1) : tSeq (tAsg te (gName i)) tz De σ H := s_asgD (De := { De with nx := tz De }) h k
end
/-! ### True below a number; count and index of Trues -/
def rLtB : R2 := fun x y H Q => ∃ i j, (x = .int i ∨ ∃ b : Bool, x = .bl b ∧ i = if b = true then 1 else 0) ∧ y = .int j ∧ Q (.bl (decide (i < j))) H
theorem gives_lt_bi (b : Bool) (j : Int) (t : Tok) : Gives (Builtin.«int.__lt__» ⟨[.bool b, .int j t], []⟩) (.val (Value.bool (decide ((if b = true then (1 : Int) else 0) < j)))) :=
  .of_wp fun M A E s Q h => by obtain ⟨hp, g, d, tk, os⟩ := s; wp_walk; exact ⟨_, rfl, h⟩
section
variable {X : Cx}
theorem op_ltB : OpR X (compareOp .Lt) rLtB := by
  intro pins s σ H x y v u Q I rx ry h
  obtain ⟨i, j, rfl | ⟨b, rfl, rfl⟩, rfl, q⟩ := h
  · exact op_lt pins s σ H _ _ v u Q I rx ry ⟨i, j, rfl, rfl, q⟩
  · cases rx
    obtain ⟨t, rfl⟩ := ry
    show wpAny _ X.A (richCompare .Lt _ _) _ _ s
    exact wpAny_richCompare_left (typeIs_bool' s b) (typeIs_int s j t) (by decide) F.sub_int_bool F.slot_bool_lt
      (call_gives F.slot_bool_lt (typeIs_bool' s b) F.entry_int_lt (F.args_int_lt_2 _ _) (gives_lt_bi b j t) ⟨nofun, ⟨.bl _, H, I, rfl, q⟩⟩)
def rCntF (K : PySem.W.Frag) : V → List V → Hp → VK → Prop := fun x xs H Q => ∃ (a : Addr) (ys : List V) (y : V), x = V.ref a ∧ xs = [y] ∧ SqL K H a ys ∧ flatV y = true ∧ ys.all flatV = true ∧ Q (.int (ys.countP (fun z => eqV z y) : Nat)) H
theorem cnt_flat {y : V} : ∀ {ys : List V} {us : List Value}, Vals ys us → ys.all flatV = true → us.countP (eqU y) = ys.countP (fun z => eqV z y)
  | _, _, .nil, _ => rfl
  | z :: ys, u :: us, .cons r t, f => by
    rw [List.all_cons, Bool.and_eq_true] at f
    rw [List.countP_cons, List.countP_cons, cnt_flat t f.2, eqU_of r f.1]
theorem mt_countF : MtR X "list.count" (rCntF X.K) := by
  intro pins s σ H x xs v us Q I rx rxs h
  obtain ⟨p, ys, y, rfl, rfl, hs, fy, fys, q⟩ := h
  cases rx
  obtain ⟨u, rfl, ru⟩ := rxs.one
  obtain ⟨its, rv, ⟨⟨cls, dd, data, sl⟩, n, ho, hc, hdn, hd⟩, hlen⟩ := I.list hs
  simp only at hc hd
  subst hc hd
  refine call_meets PySem.F.slot_list_count ⟨_, ho, rfl⟩ PySem.F.entry_list_count (PySem.F.args_list_count_2 _ _)
    (SeqAt.list_countAt p its.toArray n dd sl u (eqU y)) ⟨ho, fun u' hu' => mem_eqAt ru fy rv fys u' (by simpa using hu'), ?_⟩
  have ec : its.toArray.toList.countP (eqU y) = ys.countP (fun z => eqV z y) := cnt_flat rv fys
  refine ⟨.int (ys.countP (fun z => eqV z y) : Nat), H, I.tok _, ⟨s.toks, ?_⟩, q⟩
  show Value.int ((its.toArray.toList.countP (eqU y) : Nat) : Int) s.toks = Value.int ((ys.countP (fun z => eqV z y) : Nat) : Int) s.toks
  rw [ec]
end
section
variable {K : PySem.W.Frag} {σ : L2.St} {H : Hp} {ta tb te : TE} {i j : Int}
theorem ev_ltB {x : V} (ha : Ev ta σ H x) (hx : x = .int i ∨ ∃ b : Bool, x = .bl b ∧ i = if b = true then 1 else 0) (hb : Ev tb σ H (.int j)) : Ev (tOp rLtB ta tb) σ H (.bl (decide (i < j))) := ev_op ha hb fun H1 _ _ q => ⟨i, j, hx, rfl, q H1 (Ex.refl H1)⟩
theorem ev_cntF {p : Addr} {ys : List V} {y : V} {n : Int} (ha : Ev ta σ H (.ref p)) (hp : H p = some (.lst ys)) (hy : Ev tb σ H y) (f1 : flatV y = true) (f2 : ys.all flatV = true) (hn : n = (ys.countP (fun z => eqV z y) : Nat)) : Ev (tBM K "list" (rCntF K) ta (tCons tb tNil)) σ H (.int n) := fun H1 e Q q =>
  ha H1 e _ fun H2 e2 => ⟨.inl ⟨rfl, _, sq_of (e2 _ _ (e _ _ hp))⟩, hy H2 (e.trans e2) _ fun H3 e3 => ⟨p, ys, y, rfl, rfl, sq_of (e3 _ _ (e2 _ _ (e _ _ hp))), f1, f2, by rw [← hn]; exact q H3 (e2.trans e3)⟩⟩
theorem ev_idxF {p : Addr} {ys : List V} {y z : V} {n : Nat} (ha : Ev ta σ H (.ref p)) (hp : H p = some (.lst ys)) (hy : Ev tb σ H y) (f1 : flatV y = true) (f2 : ys.all flatV = true) (hz : ys[n]? = some z) (hq : eqV z y = true) (hno : ∀ (m : Nat) (z' : V), m < n → ys[m]? = some z' → eqV z' y = false) :
    Ev (tBM K "list" (rIndex K) ta (tCons tb tNil)) σ H (.int (n : Int)) := fun H1 e Q q =>
  ha H1 e _ fun H2 e2 => ⟨.inl ⟨rfl, _, sq_of (e2 _ _ (e _ _ hp))⟩, hy H2 (e.trans e2) _ fun H3 e3 => ⟨p, ys, y, n, z, rfl, rfl, sq_of (e3 _ _ (e2 _ _ (e _ _ hp))), f1, f2, hz, hq, hno, q H3 (e2.trans e3)⟩⟩
end
/-! ### the three classes -/
def exM : List Value := [.type "ValueError", .type "Exception", .type "BaseException", .type "object"]
structure ClsF (K : PySem.W.Frag) (cE cN cR : Addr) : Prop where
  xN : PySem.W.excIn K cN [.type "ValueError", .type "Exception", .type "BaseException", .type "object"] "ValueError.__new__" = true
  kN : PySem.W.keepIn K (.ref cN) = true
  bN : PySem.W.subIn K (.ref cN) (.type "BaseException") = some true
  tN : PySem.W.typeIn K (.ref cN) = some (.type "type")
  xR : PySem.W.excIn K cR [.type "ValueError", .type "Exception", .type "BaseException", .type "object"] "ValueError.__new__" = true
  kR : PySem.W.keepIn K (.ref cR) = true
  bR : PySem.W.subIn K (.ref cR) (.type "BaseException") = some true
  tR : PySem.W.typeIn K (.ref cR) = some (.type "type")
  eN : PySem.W.exmOne K (.ref cN) (.ref cE) = some true
  eR : PySem.W.exmOne K (.ref cR) (.ref cE) = some true
  iNN : PySem.W.kitOne K (.ref cN) (.ref cN) = some true
  iNR : PySem.W.kitOne K (.ref cN) (.ref cR) = some false
  iRN : PySem.W.kitOne K (.ref cR) (.ref cN) = some false
  iRR : PySem.W.kitOne K (.ref cR) (.ref cR) = some true
  iNV : PySem.W.kitOne K (.ref cN) (.type "ValueError") = some true
  iRV : PySem.W.kitOne K (.ref cR) (.type "ValueError") = some true
  i0N : PySem.W.kitOne K (.type "NoneType") (.ref cN) = some false
  i0R : PySem.W.kitOne K (.type "NoneType") (.ref cR) = some false
  CN : ExcC K cN
  CR : ExcC K cR
section
variable {K : PySem.W.Frag} {σ : L2.St} {H : Hp} {ta : TE} {x c : V} {u t : Value} {b : Bool} {D a : Addr}
theorem kisw {X : Cx} (h : X.K = K) : CallR X (.builtin "isinstance") (rIsW K) := h ▸ call_isw
theorem kcntF {X : Cx} (h : X.K = K) : MtR X "list.count" (rCntF K) := h ▸ mt_countF
theorem kidxF {X : Cx} (h : X.K = K) : MtR X "list.index" (rIndex K) := h ▸ mt_index
/-- isinstance of a caught exception -/
theorem ev_isE (ha : Ev ta σ H (.ref a)) (hx : H a = some (ExI (.ref D) a)) (C : ExcC K D) (k : ClsV c u) (hk : PySem.W.kitOne K (.ref D) u = some b) : Ev (tCB (rIsW K) (tCons ta (tCons (tC c) tNil))) σ H (.bl b) := fun H1 e Q q =>
  ha H1 e _ fun H2 e2 => ⟨.ref a, c, .ref D, u, b, rfl, k, .inr ⟨D, a, rfl, e2 _ _ (e _ _ hx), rfl, C⟩, hk, q H2 e2⟩
theorem ev_isO (ha : Ev ta σ H x) (ty : ∀ H1, Ex H H1 → TyX K H1 x t) (k : ClsV c u) (hk : PySem.W.kitOne K t u = some b) : Ev (tCB (rIsW K) (tCons ta (tCons (tC c) tNil))) σ H (.bl b) := fun H1 e Q q =>
  ha H1 e _ fun H2 e2 => ⟨x, c, t, u, b, rfl, k, .inl (ty H2 (e.trans e2)), hk, q H2 e2⟩
end
theorem kit_self {K : PySem.W.Frag} {t : Value} : PySem.W.kitOne K t t = some true := by
  unfold PySem.W.kitOne
  rw [if_pos (beq_self_eq_true t)]
theorem kit_ref {K : PySem.W.Frag} {t : Value} {C : Addr} {b : Bool} (hne : (t == Value.ref C) = false) (hd : PySem.W.hasDictIn K C = true) (ht : PySem.W.typeIn K (.ref C) = some (.type "type")) (h : PySem.W.subIn K t (.ref C) = some b) : PySem.W.kitOne K t (.ref C) = some b := by
  obtain ⟨cd, hc, _⟩ := PySem.W.any_some hd
  have e2 : ((PySem.W.clsIn K C).isSome && PySem.W.typeIn K (.ref C) == some (.type "type")) = true := by rw [hc, ht] <;> rfl
  unfold PySem.W.kitOne
  rw [hne, if_neg Bool.false_ne_true]
  show (if ((PySem.W.clsIn K C).isSome && PySem.W.typeIn K (.ref C) == some (.type "type")) = true then PySem.W.subIn K t (.ref C) else none) = some b
  rw [if_pos e2]
  exact h
theorem kit_bt {K : PySem.W.Frag} {D : Addr} {T : String} {b : Bool} (hm : PySem.W.kitMeta T = true) (h : PySem.W.subIn K (.ref D) (.type T) = some b) : PySem.W.kitOne K (.ref D) (.type T) = some b := by
  unfold PySem.W.kitOne
  rw [if_neg (show ¬ ((Value.ref D == Value.type T) = true) from fun z => by cases beq_iff_eq.mp z)]
  show (if PySem.W.kitMeta T = true then PySem.W.subIn K (.ref D) (.type T) else none) = some b
  rw [if_pos hm]
  exact h
/-! ### loops over such things; words -/
section
variable {K : PySem.W.Frag} {σ : L2.St} {H H' : Hp} {De : Ends} {tu tz : TS} {te ta : TE} {tr : TA} {ds : List D} {j a b : Nat}
theorem s_forDL (h : EvD te σ H (.lst ds)) (Ps : Nat → L2.St → Prop) (h0 : Ps 0 σ)
    (hs : ∀ i d v σ' H1 H2, Ex H H1 → Ex H1 H2 → ds[i]? = some d → Has H2 d v → Ps i σ' → tu { De with nx := fun σ2 H3 => Ex H1 H3 ∧ Ps (i + 1) σ2, ct := fun σ2 H3 => Ex H1 H3 ∧ Ps (i + 1) σ2, bk := De.nx } (σ'.set j (some v)) H2)
    (hd : ∀ σ' H1, Ex H H1 → Ps ds.length σ' → De.nx σ' H1) : tFor (iList K te) (gName j) tu De σ H :=
  h H (Ex.refl H) _ fun v H1 e1 ⟨p, vs, hv, hp, hA⟩ => by
    subst hv
    have hl := hA.len
    refine ⟨p, rfl, ⟨vs, sq_of hp⟩, for_list (fun i σ' H2 => Ex H1 H2 ∧ Ps i σ') ⟨Ex.refl H1, h0⟩ (fun i σ' H2 _ P => sq_of (P.1 _ _ hp)) (fun i x σ' H2 hx P => ?_) (fun σ' H2 P => ?_)⟩
    · have hi : i < ds.length := by rw [← hl]; exact (List.getElem?_eq_some_iff.mp hx).1
      obtain ⟨u, hu, hq⟩ := hA.get (List.getElem?_eq_getElem hi)
      rw [hx] at hu
      cases hu
      exact hs i _ x σ' H1 H2 e1 P.1 (List.getElem?_eq_getElem hi) (hq.mono P.1) P.2
    · rw [hl] at P
      exact hd σ' H2 (e1.trans P.1) P.2
theorem s_forDT (h : EvD te σ H (.tup ds)) (Ps : Nat → L2.St → Prop) (h0 : Ps 0 σ)
    (hs : ∀ i d v σ' H1 H2, Ex H H1 → Ex H1 H2 → ds[i]? = some d → Has H2 d v → Ps i σ' → tu { De with nx := fun σ2 H3 => Ex H1 H3 ∧ Ps (i + 1) σ2, ct := fun σ2 H3 => Ex H1 H3 ∧ Ps (i + 1) σ2, bk := De.nx } (σ'.set j (some v)) H2)
    (hd : ∀ σ' H1, Ex H H1 → Ps ds.length σ' → De.nx σ' H1) : tFor (iTup K te) (gName j) tu De σ H :=
  h H (Ex.refl H) _ fun v H1 e1 ⟨p, vs, hv, hp, hA⟩ => by
    subst hv
    have hl := hA.len
    refine ⟨p, rfl, ⟨vs, st_of hp⟩, for_tup (fun i σ' H2 => Ex H1 H2 ∧ Ps i σ') ⟨Ex.refl H1, h0⟩ (fun i σ' H2 _ P => st_of (P.1 _ _ hp)) (fun i x σ' H2 hx P => ?_) (fun σ' H2 P => ?_)⟩
    · have hi : i < ds.length := by rw [← hl]; exact (List.getElem?_eq_some_iff.mp hx).1
      obtain ⟨u, hu, hq⟩ := hA.get (List.getElem?_eq_getElem hi)
      rw [hx] at hu
      cases hu
      exact hs i _ x σ' H1 H2 e1 P.1 (List.getElem?_eq_getElem hi) (hq.mono P.1) P.2
    · rw [hl] at P
      exact hd σ' H2 (e1.trans P.1) P.2
/-- for a, b in ((..), (..)) -/
theorem s_forDP {ps : List (D × D)} (h : EvD te σ H (.tup (ps.map fun q => .tup [q.1, q.2]))) (Ps : Nat → L2.St → Prop) (h0 : Ps 0 σ)
    (hs : ∀ i d v w σ' H1 H2, Ex H H1 → Ex H1 H2 → ps[i]? = some d → Has H2 d.1 v → Has H2 d.2 w → Ps i σ' → tu { De with nx := fun σ2 H3 => Ex H1 H3 ∧ Ps (i + 1) σ2, ct := fun σ2 H3 => Ex H1 H3 ∧ Ps (i + 1) σ2, bk := De.nx } ((σ'.set a (some v)).set b (some w)) H2)
    (hd : ∀ σ' H1, Ex H H1 → Ps ps.length σ' → De.nx σ' H1) : tFor (iTup K te) (gTup K 2 (gCons (gName a) (gCons (gName b) gNil))) tu De σ H :=
  h H (Ex.refl H) _ fun v H1 e1 ⟨p, vs, hv, hp, hA⟩ => by
    subst hv
    have hl := hA.len
    rw [List.length_map] at hl
    refine ⟨p, rfl, ⟨vs, st_of hp⟩, for_tup (fun i σ' H2 => Ex H1 H2 ∧ Ps i σ') ⟨Ex.refl H1, h0⟩ (fun i σ' H2 _ P => st_of (P.1 _ _ hp)) (fun i x σ' H2 hx P => ?_) (fun σ' H2 P => ?_)⟩
    · have hi : i < ps.length := by rw [← hl]; exact (List.getElem?_eq_some_iff.mp hx).1
      obtain ⟨u, hu, hq⟩ := hA.get (n := i) (d := .tup [ps[i].1, ps[i].2]) (by rw [List.getElem?_map, List.getElem?_eq_getElem hi]; rfl)
      rw [hx] at hu
      cases hu
      obtain ⟨q, us, rfl, hq1, v1, _, rfl, hv1, v2, _, rfl, hv2, rfl⟩ := hq.mono P.1
      exact ⟨q, [v1, v2], rfl, st_of hq1, rfl, v1, [v2], rfl, v2, [], rfl, rfl, hs i _ v1 v2 σ' H1 H2 e1 P.1 (List.getElem?_eq_getElem hi) hv1 hv2 P.2⟩
    · rw [hl] at P
      exact hd σ' H2 (e1.trans P.1) P.2
theorem s_forDR {n : Nat} (h : EvA tr σ H [.int (n : Int)]) (hn : n ≤ 100000) (Ps : Nat → L2.St → Prop) (h0 : Ps 0 σ)
    (hs : ∀ (i : Nat) σ' H1 H2, Ex H H1 → Ex H1 H2 → i < n → Ps i σ' → tu { De with nx := fun σ2 H3 => Ex H1 H3 ∧ Ps (i + 1) σ2, ct := fun σ2 H3 => Ex H1 H3 ∧ Ps (i + 1) σ2, bk := De.nx } (σ'.set j (some (.int (i : Int)))) H2)
    (hd : ∀ σ' H1, Ex H H1 → Ps n σ' → De.nx σ' H1) : tFor (iRng1 tr) (gName j) tu De σ H :=
  s_forR1 (n := (n : Int)) h (by omega) (fun i σ' H2 => Ex H H2 ∧ Ps i σ') (fun H1 e1 => ⟨e1, h0⟩) (fun i σ' H2 hi P => hs i σ' H H2 (Ex.refl H) P.1 (by omega) P.2) (fun σ' H2 P => hd σ' H2 P.1 P.2)
theorem q_forDL (h : EvD te σ H (.lst ds)) (Ps : Nat → L2.St → Prop) (h0 : Ps 0 σ) (hs : ∀ i d v σ' H1 H2, Ex H H1 → Ex H1 H2 → ds[i]? = some d → Has H2 d v → Ps i σ' → tu { De with nx := fun σ2 H3 => Ex H1 H3 ∧ Ps (i + 1) σ2, ct := fun σ2 H3 => Ex H1 H3 ∧ Ps (i + 1) σ2, bk := tz De } (σ'.set j (some v)) H2) (hd : ∀ σ' H1, Ex H H1 → Ps ds.length σ' → tz De σ' H1) : tSeq (tFor (iList K te) (gName j) tu) tz De σ H := s_forDL (De := { De with nx := tz De }) h Ps h0 hs hd
theorem q_forDT (h : EvD te σ H (.tup ds)) (Ps : Nat → L2.St → Prop) (h0 : Ps 0 σ) (hs : ∀ i d v σ' H1 H2, Ex H H1 → Ex H1 H2 → ds[i]? = some d → Has H2 d v → Ps i σ' → tu { De with nx := fun σ2 H3 => Ex H1 H3 ∧ Ps (i + 1) σ2, ct := fun σ2 H3 => Ex H1 H3 ∧ Ps (i + 1) σ2, bk := tz De } (σ'.set j (some v)) H2) (hd : ∀ σ' H1, Ex H H1 → Ps ds.length σ' → tz De σ' H1) : tSeq (tFor (iTup K te) (gName j) tu) tz De σ H := s_forDT (De := { De with nx := tz De }) h Ps h0 hs hd
theorem q_forDP {ps : List (D × D)} (h : EvD te σ H (.tup (ps.map fun q => .tup [q.1, q.2]))) (Ps : Nat → L2.St → Prop) (h0 : Ps 0 σ) (hs : ∀ i d v w σ' H1 H2, Ex H H1 → Ex H1 H2 → ps[i]? = some d → Has H2 d.1 v → Has H2 d.2 w → Ps i σ' → tu { De with nx := fun σ2 H3 => Ex H1 H3 ∧ Ps (i + 1) σ2, ct := fun σ2 H3 => Ex H1 H3 ∧ Ps (i + 1) σ2, bk := tz De } ((σ'.set a (some v)).set b (some w)) H2) (hd : ∀ σ' H1, Ex H H1 → Ps ps.length σ' → tz De σ' H1) : tSeq (tFor (iTup K te) (gTup K 2 (gCons (gName a) (gCons (gName b) gNil))) tu) tz De σ H := s_forDP (De := { De with nx := tz De }) h Ps h0 hs hd
theorem q_forDR {n : Nat} (h : EvA tr σ H [.int (n : Int)]) (hn : n ≤ 100000) (Ps : Nat → L2.St → Prop) (h0 : Ps 0 σ) (hs : ∀ (i : Nat) σ' H1 H2, Ex H H1 → Ex H1 H2 → i < n → Ps i σ' → tu { De with nx := fun σ2 H3 => Ex H1 H3 ∧ Ps (i + 1) σ2, ct := fun σ2 H3 => Ex H1 H3 ∧ Ps (i + 1) σ2, bk := tz De } (σ'.set j (some (.int (i : Int)))) H2) (hd : ∀ σ' H1, Ex H H1 → Ps n σ' → tz De σ' H1) : tSeq (tFor (iRng1 tr) (gName j) tu) tz De σ H := s_forDR (De := { De with nx := tz De }) h hn Ps h0 hs hd
theorem q_any {t tz : TS} {De : Ends} {σ : L2.St} {H : Hp} (h : t { De with nx := tz De } σ H) : tSeq t tz De σ H := h
theorem ev_neW {s : Str} (h : Ev te σ H (.str s)) : Ev (tOp rNe te (tC (.str s))) σ H (.bl false) := ev_is (ev_op h ev_c (rv_ne rfl)) (by rw [decide_eq_true rfl]; rfl)
theorem ev_eqW {s : Str} (h : Ev te σ H (.str s)) : Ev (tOp rEq te (tC (.str s))) σ H (.bl true) := ev_is (ev_op h ev_c (rv_eq rfl)) (by rw [decide_eq_true rfl])
end
end Rl
set_option Elab.async false
set_option linter.all false
set_option maxRecDepth 100000
set_option maxHeartbeats 1000000

namespace K01
open PySem PySem.Spec PyProof.Rows L2 Evl Rl

def topS (i : Nat) : Stmt := PySem.Challenge.pw_rootladder_k01_what_is_refused.main.body.getD i (.Pass ⟨0, 0, 0, 0⟩)
abbrev s_is_number : Stmt := topS 6
theorem sc_is_number : FnScope ["value"] ["value"] (defScope s_is_number) := ⟨rfl, rfl, rfl, by decide +kernel, rfl, by decide +kernel, by decide +kernel⟩
abbrev s_quotient_round : Stmt := topS 19
theorem sc_quotient_round : FnScope ["number", "whole", "add", "over", "quotients"] ["number", "whole"] (defScope s_quotient_round) := ⟨rfl, rfl, rfl, by decide +kernel, rfl, by decide +kernel, by decide +kernel⟩
abbrev s_climb : Stmt := topS 20
theorem sc_climb : FnScope ["quotients", "found", "above", "below", "above_ahead", "below_ahead", "quotient"] ["quotients"] (defScope s_climb) := ⟨rfl, rfl, rfl, by decide +kernel, rfl, by decide +kernel, by decide +kernel⟩
abbrev s_is_odd : Stmt := topS 28
theorem sc_is_odd : FnScope ["number"] ["number"] (defScope s_is_odd) := ⟨rfl, rfl, rfl, by decide +kernel, rfl, by decide +kernel, by decide +kernel⟩
abbrev s_law_mixed : Stmt := topS 36
theorem sc_law_mixed : FnScope ["_law_number_here", "_law_k"] ["_law_number_here", "_law_k"] (defScope s_law_mixed) := ⟨rfl, rfl, rfl, by decide +kernel, rfl, by decide +kernel, by decide +kernel⟩
abbrev s_law_root : Stmt := topS 38
theorem sc_law_root : FnScope ["_law_number_here", "_law_low", "_law_high", "_law_half"] ["_law_number_here"] (defScope s_law_root) := ⟨rfl, rfl, rfl, by decide +kernel, rfl, by decide +kernel, by decide +kernel⟩
abbrev s_law_name : Stmt := topS 40
theorem sc_law_name : FnScope ["_law_error", "_law_names"] ["_law_error"] (defScope s_law_name) := ⟨rfl, rfl, rfl, by decide +kernel, rfl, by decide +kernel, by decide +kernel⟩
abbrev s_whole_root : Stmt := topS 7
theorem sc_whole_root : FnScope ["number"] ["number"] (defScope s_whole_root) := ⟨rfl, rfl, rfl, by decide +kernel, rfl, by decide +kernel, by decide +kernel⟩
abbrev s_check_any : Stmt := topS 12
theorem sc_check_any : FnScope ["value"] ["value"] (defScope s_check_any) := ⟨rfl, rfl, rfl, by decide +kernel, rfl, by decide +kernel, by decide +kernel⟩
abbrev s_check_between : Stmt := topS 13
theorem sc_check_between : FnScope ["value", "least", "greatest"] ["value", "least", "greatest"] (defScope s_check_between) := ⟨rfl, rfl, rfl, by decide +kernel, rfl, by decide +kernel, by decide +kernel⟩
abbrev s_law_number_by : Stmt := topS 39
theorem sc_law_number_by : FnScope ["_law_number_here", "_law_most", "_law_found", "_law_side"] ["_law_number_here", "_law_most"] (defScope s_law_number_by) := ⟨rfl, rfl, rfl, by decide +kernel, rfl, by decide +kernel, by decide +kernel⟩
abbrev s_is_square : Stmt := topS 8
theorem sc_is_square : FnScope ["number", "root"] ["number"] (defScope s_is_square) := ⟨rfl, rfl, rfl, by decide +kernel, rfl, by decide +kernel, by decide +kernel⟩
abbrev s_check_number : Stmt := topS 14
theorem sc_check_number : FnScope ["number"] ["number"] (defScope s_check_number) := ⟨rfl, rfl, rfl, by decide +kernel, rfl, by decide +kernel, by decide +kernel⟩
abbrev s_check_pair : Stmt := topS 16
theorem sc_check_pair : FnScope ["value", "part"] ["value"] (defScope s_check_pair) := ⟨rfl, rfl, rfl, by decide +kernel, rfl, by decide +kernel, by decide +kernel⟩
abbrev s_check_root : Stmt := topS 15
theorem sc_check_root : FnScope ["number"] ["number"] (defScope s_check_root) := ⟨rfl, rfl, rfl, by decide +kernel, rfl, by decide +kernel, by decide +kernel⟩
abbrev s_ladder : Stmt := topS 21
theorem sc_ladder : FnScope ["number", "whole"] ["number"] (defScope s_ladder) := ⟨rfl, rfl, rfl, by decide +kernel, rfl, by decide +kernel, by decide +kernel⟩
abbrev s_worth : Stmt := topS 24
theorem sc_worth : FnScope ["number", "pair", "x", "y"] ["number", "pair"] (defScope s_worth) := ⟨rfl, rfl, rfl, by decide +kernel, rfl, by decide +kernel, by decide +kernel⟩
abbrev s_times : Stmt := topS 25
theorem sc_times : FnScope ["number", "one", "other", "x", "y", "u", "v"] ["number", "one", "other"] (defScope s_times) := ⟨rfl, rfl, rfl, by decide +kernel, rfl, by decide +kernel, by decide +kernel⟩
abbrev s_fractions : Stmt := topS 22
theorem sc_fractions : FnScope ["number", "many", "whole", "quotients", "rounds", "row"] ["number", "many"] (defScope s_fractions) := ⟨rfl, rfl, rfl, by decide +kernel, rfl, by decide +kernel, by decide +kernel⟩
abbrev s_whole_turn : Stmt := topS 29
theorem sc_whole_turn : FnScope ["number", "whole", "quotients", "rounds", "row"] ["number"] (defScope s_whole_turn) := ⟨rfl, rfl, rfl, by decide +kernel, rfl, by decide +kernel, by decide +kernel⟩
abbrev s_least_less_one : Stmt := topS 31
theorem sc_least_less_one : FnScope ["number", "whole", "quotients", "row"] ["number"] (defScope s_least_less_one) := ⟨rfl, rfl, rfl, by decide +kernel, rfl, by decide +kernel, by decide +kernel⟩
abbrev s_stretched : Stmt := topS 33
theorem sc_stretched : FnScope ["number", "fraction", "told", "own", "by", "above", "below"] ["number", "fraction", "told"] (defScope s_stretched) := ⟨rfl, rfl, rfl, by decide +kernel, rfl, by decide +kernel, by decide +kernel⟩
abbrev s_least_one : Stmt := topS 30
theorem sc_least_one : FnScope ["number"] ["number"] (defScope s_least_one) := ⟨rfl, rfl, rfl, by decide +kernel, rfl, by decide +kernel, by decide +kernel⟩
abbrev s_reach : Stmt := topS 34
theorem sc_reach : FnScope ["number", "told", "fraction", "pair"] ["number", "told"] (defScope s_reach) := ⟨rfl, rfl, rfl, by decide +kernel, rfl, by decide +kernel, by decide +kernel⟩
abbrev s_ones : Stmt := topS 32
theorem sc_ones : FnScope ["number", "many", "least", "pair", "found", "_"] ["number", "many"] (defScope s_ones) := ⟨rfl, rfl, rfl, by decide +kernel, rfl, by decide +kernel, by decide +kernel⟩
abbrev s_law_asked : Stmt := topS 41
theorem sc_law_asked : FnScope ["_law_which", "_law_number_here", "_law_second", "_law_third"] ["_law_which", "_law_number_here", "_law_second", "_law_third"] (defScope s_law_asked) := ⟨rfl, rfl, rfl, by decide +kernel, rfl, by decide +kernel, by decide +kernel⟩
abbrev s_law_said : Stmt := topS 42
theorem sc_law_said : FnScope ["_law_which", "_law_number_here", "_law_second", "_law_third", "_law_caught", "_law_error"] ["_law_which", "_law_number_here", "_law_second", "_law_third"] (defScope s_law_said) := ⟨rfl, rfl, rfl, by decide +kernel, rfl, by decide +kernel, by decide +kernel⟩
abbrev s_law_numbers_right : Stmt := topS 43
theorem sc_law_numbers_right : FnScope ["_law_odd", "_law_square", "_law_good", "_law_which", "_law_second", "_law_none"] ["_law_odd", "_law_square", "_law_good"] (defScope s_law_numbers_right) := ⟨rfl, rfl, rfl, by decide +kernel, rfl, by decide +kernel, by decide +kernel⟩
abbrev s_law_seconds_right : Stmt := topS 44
theorem sc_law_seconds_right : FnScope ["_law_odd", "_law_square", "_law_good", "_law_more", "_law_which", "_law_none", "_law_most", "_law_far", "_law_told", "_law_bad"] ["_law_odd", "_law_square", "_law_good", "_law_more"] (defScope s_law_seconds_right) := ⟨rfl, rfl, rfl, by decide +kernel, rfl, by decide +kernel, by decide +kernel⟩
abbrev s_law_ends_right : Stmt := topS 45
theorem sc_law_ends_right : FnScope ["_law_number_here", "_law_which", "_law_second"] [] (defScope s_law_ends_right) := ⟨rfl, rfl, rfl, by decide +kernel, rfl, by decide +kernel, by decide +kernel⟩
abbrev s_law : Stmt := topS 46
theorem sc_law : FnScope ["_law_script", "_law_k", "_law_cell", "_law_more", "_law_odd", "_law_side", "_law_good"] ["_law_script"] (defScope s_law) := ⟨rfl, rfl, rfl, by decide +kernel, rfl, by decide +kernel, by decide +kernel⟩
structure Txt (K : PySem.W.Frag) (mg : Str → Option Value) where
  (a_is_number : Addr) (d_is_number : FuncData) (F_is_number : Fun K "is_number" "is_number" s_is_number a_is_number d_is_number) (b_is_number : Binds K d_is_number ["value"] []) (g_is_number : mg "is_number" = some (.ref a_is_number))
  (a_quotient_round : Addr) (d_quotient_round : FuncData) (F_quotient_round : Fun K "quotient_round" "quotient_round" s_quotient_round a_quotient_round d_quotient_round) (b_quotient_round : Binds K d_quotient_round ["number", "whole"] []) (g_quotient_round : mg "quotient_round" = some (.ref a_quotient_round))
  (a_climb : Addr) (d_climb : FuncData) (F_climb : Fun K "climb" "climb" s_climb a_climb d_climb) (b_climb : Binds K d_climb ["quotients"] []) (g_climb : mg "climb" = some (.ref a_climb))
  (a_is_odd : Addr) (d_is_odd : FuncData) (F_is_odd : Fun K "is_odd" "is_odd" s_is_odd a_is_odd d_is_odd) (b_is_odd : Binds K d_is_odd ["number"] []) (g_is_odd : mg "is_odd" = some (.ref a_is_odd))
  (a_law_mixed : Addr) (d_law_mixed : FuncData) (F_law_mixed : Fun K "_law_mixed" "_law_mixed" s_law_mixed a_law_mixed d_law_mixed) (b_law_mixed : Binds K d_law_mixed ["_law_number_here", "_law_k"] []) (g_law_mixed : mg "_law_mixed" = some (.ref a_law_mixed))
  (a_law_root : Addr) (d_law_root : FuncData) (F_law_root : Fun K "_law_root" "_law_root" s_law_root a_law_root d_law_root) (b_law_root : Binds K d_law_root ["_law_number_here"] []) (g_law_root : mg "_law_root" = some (.ref a_law_root))
  (a_law_name : Addr) (d_law_name : FuncData) (F_law_name : Fun K "_law_name" "_law_name" s_law_name a_law_name d_law_name) (b_law_name : Binds K d_law_name ["_law_error"] []) (g_law_name : mg "_law_name" = some (.ref a_law_name))
  (a_whole_root : Addr) (d_whole_root : FuncData) (F_whole_root : Fun K "whole_root" "whole_root" s_whole_root a_whole_root d_whole_root) (b_whole_root : Binds K d_whole_root ["number"] []) (g_whole_root : mg "whole_root" = some (.ref a_whole_root))
  (a_check_any : Addr) (d_check_any : FuncData) (F_check_any : Fun K "check_any" "check_any" s_check_any a_check_any d_check_any) (b_check_any : Binds K d_check_any ["value"] []) (g_check_any : mg "check_any" = some (.ref a_check_any))
  (a_check_between : Addr) (d_check_between : FuncData) (F_check_between : Fun K "check_between" "check_between" s_check_between a_check_between d_check_between) (b_check_between : Binds K d_check_between ["value", "least", "greatest"] []) (g_check_between : mg "check_between" = some (.ref a_check_between))
  (a_law_number_by : Addr) (d_law_number_by : FuncData) (F_law_number_by : Fun K "_law_number_by" "_law_number_by" s_law_number_by a_law_number_by d_law_number_by) (b_law_number_by : Binds K d_law_number_by ["_law_number_here", "_law_most"] []) (g_law_number_by : mg "_law_number_by" = some (.ref a_law_number_by))
  (a_is_square : Addr) (d_is_square : FuncData) (F_is_square : Fun K "is_square" "is_square" s_is_square a_is_square d_is_square) (b_is_square : Binds K d_is_square ["number"] []) (g_is_square : mg "is_square" = some (.ref a_is_square))
  (a_check_number : Addr) (d_check_number : FuncData) (F_check_number : Fun K "check_number" "check_number" s_check_number a_check_number d_check_number) (b_check_number : Binds K d_check_number ["number"] []) (g_check_number : mg "check_number" = some (.ref a_check_number))
  (a_check_pair : Addr) (d_check_pair : FuncData) (F_check_pair : Fun K "check_pair" "check_pair" s_check_pair a_check_pair d_check_pair) (b_check_pair : Binds K d_check_pair ["value"] []) (g_check_pair : mg "check_pair" = some (.ref a_check_pair))
  (a_check_root : Addr) (d_check_root : FuncData) (F_check_root : Fun K "check_root" "check_root" s_check_root a_check_root d_check_root) (b_check_root : Binds K d_check_root ["number"] []) (g_check_root : mg "check_root" = some (.ref a_check_root))
  (a_ladder : Addr) (d_ladder : FuncData) (F_ladder : Fun K "ladder" "ladder" s_ladder a_ladder d_ladder) (b_ladder : Binds K d_ladder ["number"] []) (g_ladder : mg "ladder" = some (.ref a_ladder))
  (a_worth : Addr) (d_worth : FuncData) (F_worth : Fun K "worth" "worth" s_worth a_worth d_worth) (b_worth : Binds K d_worth ["number", "pair"] []) (g_worth : mg "worth" = some (.ref a_worth))
  (a_times : Addr) (d_times : FuncData) (F_times : Fun K "times" "times" s_times a_times d_times) (b_times : Binds K d_times ["number", "one", "other"] []) (g_times : mg "times" = some (.ref a_times))
  (a_fractions : Addr) (d_fractions : FuncData) (F_fractions : FunD K "fractions" "fractions" (defArgs s_fractions) (defBody s_fractions) (defScope s_fractions) [.int 10] [] a_fractions d_fractions) (b_fractions : Binds K d_fractions ["number", "many"] []) (g_fractions : mg "fractions" = some (.ref a_fractions)) (e_fractions : List Value) (dv_fractions : Vals [.int 10] e_fractions) (bd_fractions : Binds K d_fractions ["number", "many"] e_fractions)
  (a_whole_turn : Addr) (d_whole_turn : FuncData) (F_whole_turn : Fun K "whole_turn" "whole_turn" s_whole_turn a_whole_turn d_whole_turn) (b_whole_turn : Binds K d_whole_turn ["number"] []) (g_whole_turn : mg "whole_turn" = some (.ref a_whole_turn))
  (a_least_less_one : Addr) (d_least_less_one : FuncData) (F_least_less_one : Fun K "least_less_one" "least_less_one" s_least_less_one a_least_less_one d_least_less_one) (b_least_less_one : Binds K d_least_less_one ["number"] []) (g_least_less_one : mg "least_less_one" = some (.ref a_least_less_one))
  (a_stretched : Addr) (d_stretched : FuncData) (F_stretched : Fun K "stretched" "stretched" s_stretched a_stretched d_stretched) (b_stretched : Binds K d_stretched ["number", "fraction", "told"] []) (g_stretched : mg "stretched" = some (.ref a_stretched))
  (a_least_one : Addr) (d_least_one : FuncData) (F_least_one : Fun K "least_one" "least_one" s_least_one a_least_one d_least_one) (b_least_one : Binds K d_least_one ["number"] []) (g_least_one : mg "least_one" = some (.ref a_least_one))
  (a_reach : Addr) (d_reach : FuncData) (F_reach : Fun K "reach" "reach" s_reach a_reach d_reach) (b_reach : Binds K d_reach ["number", "told"] []) (g_reach : mg "reach" = some (.ref a_reach))
  (a_ones : Addr) (d_ones : FuncData) (F_ones : FunD K "ones" "ones" (defArgs s_ones) (defBody s_ones) (defScope s_ones) [.int 5] [] a_ones d_ones) (b_ones : Binds K d_ones ["number", "many"] []) (g_ones : mg "ones" = some (.ref a_ones)) (e_ones : List Value) (dv_ones : Vals [.int 5] e_ones) (bd_ones : Binds K d_ones ["number", "many"] e_ones)
  (a_law_asked : Addr) (d_law_asked : FuncData) (F_law_asked : Fun K "_law_asked" "_law_asked" s_law_asked a_law_asked d_law_asked) (b_law_asked : Binds K d_law_asked ["_law_which", "_law_number_here", "_law_second", "_law_third"] []) (g_law_asked : mg "_law_asked" = some (.ref a_law_asked))
  (a_law_said : Addr) (d_law_said : FuncData) (F_law_said : Fun K "_law_said" "_law_said" s_law_said a_law_said d_law_said) (b_law_said : Binds K d_law_said ["_law_which", "_law_number_here", "_law_second", "_law_third"] []) (g_law_said : mg "_law_said" = some (.ref a_law_said))
  (a_law_numbers_right : Addr) (d_law_numbers_right : FuncData) (F_law_numbers_right : Fun K "_law_numbers_right" "_law_numbers_right" s_law_numbers_right a_law_numbers_right d_law_numbers_right) (b_law_numbers_right : Binds K d_law_numbers_right ["_law_odd", "_law_square", "_law_good"] []) (g_law_numbers_right : mg "_law_numbers_right" = some (.ref a_law_numbers_right))
  (a_law_seconds_right : Addr) (d_law_seconds_right : FuncData) (F_law_seconds_right : Fun K "_law_seconds_right" "_law_seconds_right" s_law_seconds_right a_law_seconds_right d_law_seconds_right) (b_law_seconds_right : Binds K d_law_seconds_right ["_law_odd", "_law_square", "_law_good", "_law_more"] []) (g_law_seconds_right : mg "_law_seconds_right" = some (.ref a_law_seconds_right))
  (a_law_ends_right : Addr) (d_law_ends_right : FuncData) (F_law_ends_right : Fun K "_law_ends_right" "_law_ends_right" s_law_ends_right a_law_ends_right d_law_ends_right) (b_law_ends_right : Binds K d_law_ends_right [] []) (g_law_ends_right : mg "_law_ends_right" = some (.ref a_law_ends_right))
  (a_law : Addr) (d_law : FuncData) (F_law : Fun K "law" "law" s_law a_law d_law) (b_law : Binds K d_law ["_law_script"] []) (g_law : mg "law" = some (.ref a_law))
  (z_ValueError : mg "ValueError" = none)
  (z_bool : mg "bool" = none)
  (z_enumerate : mg "enumerate" = none)
  (z_int : mg "int" = none)
  (z_isinstance : mg "isinstance" = none)
  (z_len : mg "len" = none)
  (z_range : mg "range" = none)
  (z_tuple : mg "tuple" = none)
  (t_GREATEST_NUMBER : Tok) (g_GREATEST_NUMBER : mg "GREATEST_NUMBER" = some (.int 100000 t_GREATEST_NUMBER))
  (t_LEAST_NUMBER : Tok) (g_LEAST_NUMBER : mg "LEAST_NUMBER" = some (.int 2 t_LEAST_NUMBER))
  (t_MOST_FRACTIONS : Tok) (g_MOST_FRACTIONS : mg "MOST_FRACTIONS" = some (.int 200 t_MOST_FRACTIONS))
  (t_MOST_ONES : Tok) (g_MOST_ONES : mg "MOST_ONES" = some (.int 20 t_MOST_ONES))
  (g_isqrt : mg "isqrt" = some (.builtin "math.isqrt"))
  (cE cN cR : Addr)
  (cf : ClsF K cE cN cR)
  (g_RootError : mg "RootError" = some (.ref cE))
  (g_NoNumber : mg "NoNumber" = some (.ref cN))
  (g_NoRoot : mg "NoRoot" = some (.ref cR))
/-! the mathematics -/
def mixed (n k : Int) : Int := (n % 2147483647 + 7919 * k * k + 31 * k) * 48271 % 2147483647 * (69621 + 2 * k) % 2147483629
theorem mixed_lo (n k : Int) : 0 ≤ mixed n k := Int.emod_nonneg _ (by decide)
theorem mixed_hi (n k : Int) : mixed n k < 2147483629 := Int.emod_lt_of_pos _ (by decide)
def rt (n : Int) : Int := (Float64.isqrt n.toNat : Nat)
theorem rt_spec {n : Int} (h : 0 ≤ n) : 0 ≤ rt n ∧ rt n * rt n ≤ n ∧ n < (rt n + 1) * (rt n + 1) := by
  have e := PySem.Float64.isqrt_spec n.toNat
  unfold rt
  have e1 : ((Float64.isqrt n.toNat * Float64.isqrt n.toNat : Nat) : Int) ≤ (n.toNat : Int) := Int.ofNat_le.mpr e.1
  have e2 : (n.toNat : Int) < (((Float64.isqrt n.toNat + 1) * (Float64.isqrt n.toNat + 1) : Nat) : Int) := Int.ofNat_lt.mpr e.2
  rw [Int.natCast_mul] at e1
  rw [Int.natCast_mul] at e2
  have e3 : (n.toNat : Int) = n := Int.toNat_of_nonneg h
  rw [e3] at e1 e2
  exact ⟨Int.natCast_nonneg _, e1, e2⟩
theorem sq_le {a b : Int} (ha : 0 ≤ a) (h : a ≤ b) : a * a ≤ b * b := Int.mul_le_mul h h ha (by omega)
theorem rt_uni {n a : Int} (h0 : 0 ≤ a) (h1 : a * a ≤ n) (h2 : n < (a + 1) * (a + 1)) : a = rt n := by
  have hn : 0 ≤ n := Int.le_trans (Int.mul_nonneg h0 h0) h1
  obtain ⟨r0, r1, r2⟩ := rt_spec hn
  by_cases z : a < rt n
  · have := sq_le (show 0 ≤ a + 1 by omega) (show a + 1 ≤ rt n by omega)
    omega
  · by_cases y : rt n < a
    · have := sq_le (show 0 ≤ rt n + 1 by omega) (show rt n + 1 ≤ a by omega)
      omega
    · omega
theorem rt_le {n b : Int} (hn : 0 ≤ n) (hb : 0 ≤ b) (h : n < (b + 1) * (b + 1)) : rt n ≤ b := by
  obtain ⟨r0, r1, r2⟩ := rt_spec hn
  by_cases z : b + 1 ≤ rt n
  · have := sq_le (show 0 ≤ b + 1 by omega) z
    omega
  · omega
theorem rt_ge {n b : Int} (hn : 0 ≤ n) (hb : 0 ≤ b) (h : b * b ≤ n) : b ≤ rt n := by
  obtain ⟨r0, r1, r2⟩ := rt_spec hn
  by_cases z : rt n + 1 ≤ b
  · have := sq_le (show 0 ≤ rt n + 1 by omega) z
    omega
  · omega
theorem rt_sq {b : Int} (hb : 0 ≤ b) : rt (b * b) = b := (rt_uni hb (Int.le_refl _) (by
  have : (b + 1) * (b + 1) = b * b + 2 * b + 1 := by grind
  omega)).symm
/-- the drawn number -/
def by0 (x most : Int) : Int :=
  if x % 5 = 1 then (2 + x / 5 % (rt most - 2)) * (2 + x / 5 % (rt most - 2)) + (if x / 9999 % 4 = 0 then -2 else if x / 9999 % 4 = 1 then -1 else if x / 9999 % 4 = 2 then 1 else 2)
  else 2 + x / 5 % (most - 1)
def byN (x most : Int) : Int := if rt (by0 x most) * rt (by0 x most) = by0 x most then by0 x most + 1 else by0 x most
structure Nsq (n : Int) : Prop where
  two : 2 ≤ n
  ns : rt n * rt n ≠ n
theorem Nsq.wh {n : Int} (h : Nsq n) : Lad.Wh n (rt n) := by
  have a := rt_spec (show 0 ≤ n by have := h.two; omega)
  have b := h.two
  have c := h.ns
  refine ⟨?_, by omega, a.2.2⟩
  by_cases z : rt n ≤ 0
  · have : rt n = 0 := by omega
    rw [this] at a
    omega
  · omega
theorem nsq_of {n a : Int} (h0 : 0 ≤ a) (h1 : a * a < n) (h2 : n < (a + 1) * (a + 1)) (h3 : 2 ≤ n) : Nsq n := by
  have e := rt_uni h0 (by omega) h2
  exact ⟨h3, by rw [← e]; omega⟩
theorem by0_ok {x most : Int} (hm : 60 ≤ most) : 2 ≤ by0 x most ∧ by0 x most ≤ most := by
  have r7 : 7 ≤ rt most := rt_ge (by omega) (by decide) (by omega)
  have r1 := (rt_spec (show 0 ≤ most by omega)).2.1
  unfold by0
  have a := Int.emod_nonneg (x / 5) (show rt most - 2 ≠ 0 by omega)
  have b := Int.emod_lt_of_pos (x / 5) (show 0 < rt most - 2 by omega)
  have c := Int.emod_nonneg (x / 5) (show most - 1 ≠ 0 by omega)
  have d := Int.emod_lt_of_pos (x / 5) (show 0 < most - 1 by omega)
  split
  · generalize x / 5 % (rt most - 2) = y at *
    have e1 := sq_le (show (0 : Int) ≤ 2 by decide) (show 2 ≤ 2 + y by omega)
    have e2 := sq_le (show 0 ≤ 2 + y by omega) (show 2 + y ≤ rt most - 1 by omega)
    have e3 : (rt most - 1) * (rt most - 1) = rt most * rt most - 2 * rt most + 1 := by grind
    split
    · omega
    · split
      · omega
      · split <;> omega
  · omega
theorem byN_ok {x most : Int} (hm : 60 ≤ most) (hs : rt most * rt most ≠ most) : Nsq (byN x most) ∧ byN x most ≤ most := by
  obtain ⟨a, b⟩ := by0_ok (x := x) hm
  unfold byN
  split
  · rename_i e
    have r0 := (rt_spec (show 0 ≤ by0 x most by omega)).1
    have r1 : 1 ≤ rt (by0 x most) := by
      by_cases z : rt (by0 x most) ≤ 0
      · have : rt (by0 x most) = 0 := by omega
        rw [this] at e
        omega
      · omega
    refine ⟨nsq_of r0 (by omega) ?_ (by omega), ?_⟩
    · have : (rt (by0 x most) + 1) * (rt (by0 x most) + 1) = rt (by0 x most) * rt (by0 x most) + 2 * rt (by0 x most) + 1 := by grind
      omega
    · by_cases z : by0 x most = most
      · rw [z] at e
        exact absurd e hs
      · omega
  · rename_i e
    exact ⟨⟨a, e⟩, b⟩
theorem rt100000 : rt 100000 = 316 := (rt_uni (by decide) (by decide) (by decide)).symm
theorem rt20000 : rt 20000 = 141 := (rt_uni (by decide) (by decide) (by decide)).symm
theorem rt3000 : rt 3000 = 54 := (rt_uni (by decide) (by decide) (by decide)).symm
theorem rt60 : rt 60 = 7 := (rt_uni (by decide) (by decide) (by decide)).symm

/-! LADM the round of a number -/
open Classical in
noncomputable def mOf (n : Int) : Nat := if h : Nsq n then Classical.choose (Lad.round_ex h.wh) else 1
theorem mOf_spec {n : Int} (h : Nsq n) : Lad.Rnd n (rt n) (mOf n) := by
  unfold mOf
  rw [dif_pos h]
  exact Classical.choose_spec (Lad.round_ex h.wh)
noncomputable def rL (n : Int) : List Int := Lad.rl n (rt n) (mOf n)
theorem rt_316 {n : Int} (h0 : 0 ≤ n) (h : n ≤ 100000) : rt n ≤ 316 := rt_le h0 (by decide) (by omega)
theorem mOf_le {n : Int} (h : Nsq n) (hn : n ≤ 100000) : mOf n ≤ 200661 := by
  have a := (mOf_spec h).top
  have b := rt_316 (by have := h.two; omega) hn
  have c := (rt_spec (show 0 ≤ n by have := h.two; omega)).1
  have d : (rt n).toNat + 1 ≤ 317 := by omega
  have e : 2 * (rt n).toNat + 1 ≤ 633 := by omega
  have := Nat.mul_le_mul d e
  omega
theorem rL_len (n : Int) : (rL n).length = mOf n := Lad.rl_len _ _ _
/-- what there is, in bounds -/
theorem st_bd {n : Int} (h : Nsq n) (hn : n ≤ 100000) (i : Nat) : 0 ≤ (Lad.st n (rt n) i).1 ∧ (Lad.st n (rt n) i).1 ≤ 316 ∧ 1 ≤ (Lad.st n (rt n) i).2 ∧ (Lad.st n (rt n) i).2 ≤ 632 ∧ 1 ≤ Lad.qt n (rt n) i ∧ Lad.qt n (rt n) i ≤ 632 ∧ Lad.qt n (rt n) i * (Lad.st n (rt n) i).2 ≤ 632 := by
  have a := Lad.st_q h.wh i
  have b := rt_316 (by have := h.two; omega) hn
  have c := h.wh.pos
  obtain ⟨a1, a2, a3, a4, a5, a6⟩ := a
  have e1 : 1 * (Lad.st n (rt n) i).2 ≤ Lad.qt n (rt n) i * (Lad.st n (rt n) i).2 := Int.mul_le_mul_of_nonneg_right a6 (by omega)
  have e2 : Lad.qt n (rt n) i * 1 ≤ Lad.qt n (rt n) i * (Lad.st n (rt n) i).2 := Int.mul_le_mul_of_nonneg_left a3 (by omega)
  omega

section
variable {P : Program} {w : World} {K : PySem.W.Frag} {mg : Str → Option Value} {base : Heap}
/-! sizes -/
local macro_rules | `(tactic| walk_at "sz") => `(tactic| first
  | assumption
  | (refine' pw_lit ?a; (case a => decide))
  | (refine' pw_mul ?a ?b; (case a => walk_at "sz"); (case b => walk_at "sz"))
  | (refine' pw_add ?a ?b; (case a => walk_at "sz"); (case b => walk_at "sz"))
  | (refine' pw_sub ?a ?b; (case a => walk_at "sz"); (case b => walk_at "sz")))
/-! side conditions -/
local macro_rules | `(tactic| walk_at "ec") => `(tactic| first
  | assumption | omega
  | exact mulL (by omega) (by omega)
  | exact mulR (by omega) (by omega)
  | (refine' mulX ?a ?b ?c; (case a => walk_at "sz"); (case b => walk_at "sz"); (case c => first | decide | omega))
  | exact ⟨by omega, Or.inl (by omega)⟩
  | exact ⟨by decide, by decide, by decide⟩
  | decide)
/-! evaluation of an expression, from the outside -/
local macro_rules | `(tactic| walk_at "ev") => `(tactic| first
  | exact ev_c | exact ev_var rfl | exact ea_nil | exact eo_none
  | (refine' ea_cons ?a ?b; (case a => walk_at "ev"); (case b => walk_at "ev"))
  | (refine' ev_add ?a ?b; (case a => walk_at "ev"); (case b => walk_at "ev"))
  | (refine' ev_sub ?a ?b; (case a => walk_at "ev"); (case b => walk_at "ev"))
  | (refine' ev_mul ?a ?b ?c; (case a => walk_at "ev"); (case b => walk_at "ev"); (case c => walk_at "ec"))
  | (refine' ev_mod ?a ?b ?c; (case a => walk_at "ev"); (case b => walk_at "ev"); (case c => walk_at "ec"))
  | (refine' ev_div ?a ?b ?c; (case a => walk_at "ev"); (case b => walk_at "ev"); (case c => walk_at "ec"))
  | (refine' ev_pow ?a ?b ?c; (case a => walk_at "ev"); (case b => walk_at "ev"); (case c => walk_at "ec"))
  | (refine' ev_neg ?a; (case a => walk_at "ev"))
  | (refine' ev_eqI ?a ?b; (case a => walk_at "ev"); (case b => walk_at "ev"))
  | (refine' ev_neI ?a ?b; (case a => walk_at "ev"); (case b => walk_at "ev"))
  | (refine' ev_eqB ?a ?b; (case a => walk_at "ev"); (case b => walk_at "ev"))
  | (refine' ev_neB ?a ?b; (case a => walk_at "ev"); (case b => walk_at "ev"))
  | (refine' ev_lt ?a ?b; (case a => walk_at "ev"); (case b => walk_at "ev"))
  | (refine' ev_le ?a ?b; (case a => walk_at "ev"); (case b => walk_at "ev"))
  | (refine' ev_gt ?a ?b; (case a => walk_at "ev"); (case b => walk_at "ev"))
  | (refine' ev_ge ?a ?b; (case a => walk_at "ev"); (case b => walk_at "ev"))
  | (refine' ev_isII ?a; (case a => walk_at "ev"))
  | (refine' ev_isIB ?a; (case a => walk_at "ev"))
  | (refine' ev_isBB ?a; (case a => walk_at "ev"))
  | (refine' ev_max ?a ?b; (case a => walk_at "ev"); (case b => walk_at "ev"))
  | (refine' ev_min ?a ?b; (case a => walk_at "ev"); (case b => walk_at "ev"))
  | (refine' et_test ?a; (case a => walk_at "ev"))
  | (refine' et_B ?a; (case a => walk_at "ev"))
  | (refine' et_not ?a; (case a => walk_at "ev"))
  | (refine' et_and ?a fun _ => ?b; (case a => walk_at "ev"); (case b => walk_at "ev"))
  | (refine' et_or ?a fun _ => ?b; (case a => walk_at "ev"); (case b => walk_at "ev"))
  | (refine' ev_andV ?a fun _ => ?b; (case a => walk_at "ev"); (case b => walk_at "ev"))
  | (refine' ev_orV ?a fun _ => ?b; (case a => walk_at "ev"); (case b => walk_at "ev"))
  | (refine' ev_notV ?a; (case a => walk_at "ev"))
  | (refine' ev_call ?a ?b; (case a => walk_at "ev"); (case b => walk_at "sp")))
local macro_rules | `(tactic| walk_at "eb") => `(tactic| first | rfl | assumption | (simp; done) | (simp; omega) | (simp only [Bool.not_true, Bool.not_false, Bool.false_or, Bool.or_false, Bool.true_and, Bool.and_true, decide_eq_false_iff_not, decide_eq_true_eq, Bool.not_eq_true', Bool.not_eq_false']; first | assumption | omega))
local macro_rules | `(tactic| walk_at "evx") => `(tactic| (refine' ev_is ?a ?b; (case a => walk_at "ev"); (case b => walk_at "eb")))
local macro_rules | `(tactic| walk_at "etx") => `(tactic| (refine' et_is ?a ?b; (case a => walk_at "ev"); (case b => walk_at "eb")))

def sp_law_mixed (K : PySem.W.Frag) : Sp := fun vs H Q _ => ∃ n k : Int, vs = [.int n, .int k] ∧ 0 ≤ k ∧ k ≤ 1000 ∧ RetV (.int (mixed n k)) H Q
theorem ok_law_mixed (T : Txt K mg) : FnOk P w K mg base CX0 1 T.a_law_mixed T.d_law_mixed ["_law_number_here", "_law_k"] (sp_law_mixed K) := by
  refine T.F_law_mixed.ok sc_law_mixed (fun vs H Q E h => ?_) (fun cdv A outer s H vs Q E hr h => ?_)
  · obtain ⟨n, k, rfl, _⟩ := h; rfl
  · obtain ⟨n, k, rfl, h0, h1, q⟩ := h
    refine ⟨_, 
      (pss_cons (ps_set (i := 0) sc_law_mixed.nd rfl (.inl rfl) (pe_op op_mod (pe_op op_mulA (pe_op op_add (pe_op op_add (pe_op op_mod (pv 0) pe_int) (pe_op op_mulA (pe_op op_mulA pe_int (pv 1)) (pv 1))) (pe_op op_mulA pe_int (pv 1))) pe_int) pe_int)) 
      (pss_one (ps_ret (pe_op op_mod (pe_op op_mulA (pv 0) (pe_op op_add pe_int (pe_op op_mulA pe_int (pv 1)))) pe_int)))), ?_⟩
    have b1 := Int.emod_nonneg n (show (2147483647 : Int) ≠ 0 by decide)
    have b2 := Int.emod_lt_of_pos n (show (0 : Int) < 2147483647 by decide)
    have b3 : 0 ≤ 7919 * k * k ∧ 7919 * k * k ≤ 7919000000 := by
      have := Int.mul_le_mul h1 h1 h0 (by decide)
      have := Int.mul_nonneg h0 h0
      rw [Int.mul_assoc]; omega
    refine q_asg (v := .int ((n % 2147483647 + 7919 * k * k + 31 * k) * 48271 % 2147483647)) (by walk_at "ev") fun H1 e1 => ?_
    have b4 := Int.emod_nonneg ((n % 2147483647 + 7919 * k * k + 31 * k) * 48271) (show (2147483647 : Int) ≠ 0 by decide)
    have b5 := Int.emod_lt_of_pos ((n % 2147483647 + 7919 * k * k + 31 * k) * 48271) (show (0 : Int) < 2147483647 by decide)
    exact s_ret (v := .int (mixed n k)) (by unfold mixed; walk_at "ev") fun H2 e2 => q.go (e1.trans e2)
theorem spv_law_mixed {n k : Int} {H : Hp} (h0 : 0 ≤ k) (h1 : k ≤ 1000) : SpV (sp_law_mixed K) [.int n, .int k] H (.int (mixed n k)) := fun _ _ _ q _ => ⟨n, k, rfl, h0, h1, q⟩
local macro_rules | `(tactic| walk_at "sp") => `(tactic| exact spv_law_mixed (by omega) (by omega))
/-! the whole root, by halves -/
def sp_law_root (K : PySem.W.Frag) : Sp := fun vs H Q _ => ∃ n : Int, vs = [.int n] ∧ 0 ≤ n ∧ n < 1000000000000000000 ∧ RetV (.int (rt n)) H Q
theorem spv_law_root {n : Int} {H : Hp} (h0 : 0 ≤ n) (h1 : n < 1000000000000000000) : SpV (sp_law_root K) [.int n] H (.int (rt n)) := fun _ _ _ q _ => ⟨n, rfl, h0, h1, q⟩
local macro_rules | `(tactic| walk_at "sp") => `(tactic| exact spv_law_root (by omega) (by omega))
theorem ok_law_root (T : Txt K mg) : FnOk P w K mg base CX0 1 T.a_law_root T.d_law_root ["_law_number_here"] (sp_law_root K) := by
  refine T.F_law_root.ok sc_law_root (fun vs H Q E h => ?_) (fun cdv A outer s H vs Q E hr h => ?_)
  · obtain ⟨n, rfl, _⟩ := h; rfl
  · obtain ⟨n, rfl, h0, h1, q⟩ := h
    refine ⟨_, 
      (pss_cons (ps_set (i := 1) sc_law_root.nd rfl (.inl rfl) pe_int) 
      (pss_cons (ps_set (i := 2) sc_law_root.nd rfl (.inl rfl) pe_int) 
      (pss_cons (ps_while PassesOwn.never (pt_cmpR op_le (pe_op op_mulA (pv 2) (pv 2)) (pv 0) (nomark _)) (
        (pss_one (ps_set (i := 2) sc_law_root.nd rfl (.inl rfl) (pe_op op_mulA (pv 2) pe_int))))) 
      (pss_cons (ps_while PassesOwn.never (pt_cmpR op_gt (pe_op op_sub (pv 2) (pv 1)) pe_int (nomark _)) (
        (pss_cons (ps_set (i := 3) sc_law_root.nd rfl (.inl rfl) (pe_op op_fdivA (pe_op op_add (pv 1) (pv 2)) pe_int)) 
        (pss_one (ps_if (pt_cmpR op_le (pe_op op_mulA (pv 3) (pv 3)) (pv 0) (nomark _)) (
          (pss_one (ps_set (i := 1) sc_law_root.nd rfl (.inl rfl) (pv 3)))) (
          (pss_one (ps_set (i := 2) sc_law_root.nd rfl (.inl rfl) (pv 3))))))))) 
      (pss_one (ps_ret (pv 1))))))), ?_⟩
    refine q_asg (v := .int 0) ev_c fun H1 e1 => ?_
    refine q_asg (v := .int 1) ev_c fun H2 e2 => ?_
    refine q_while (fun m σ' H' => ∃ h : Int, σ' = [some (.int n), some (.int 0), some (.int h), none] ∧ 1 ≤ h ∧ h ≤ 2147483648 ∧ m = (2147483648 - h).toNat ∧ Ex H H') 2147483647 ⟨1, rfl, by omega, by omega, rfl, e1.trans e2⟩ (fun m σ' H' hW => ?_)
    obtain ⟨h, rfl, a1, a2, rfl, ex⟩ := hW
    refine ⟨decide (h * h ≤ n), by walk_at "ev", fun hb H3 e3 => ?_, fun hb H3 e3 => ?_⟩
    · have hb := of_decide_eq_true hb
      have a3 : h < 1073741824 := by
        by_cases z : 1073741824 ≤ h
        · have := Int.mul_le_mul z z (by omega) (by omega)
          omega
        · omega
      refine ⟨fun σ2 H4 => σ2 = [some (.int n), some (.int 0), some (.int (h * 2)), none] ∧ Ex H H4, fun σ2 H4 hN => ?_, ?_⟩
      · obtain ⟨rfl, ex4⟩ := hN
        exact ⟨(2147483648 - h * 2).toNat, by omega, h * 2, rfl, by omega, by omega, rfl, ex4⟩
      · exact s_asg (v := .int (h * 2)) (by walk_at "ev") fun H4 e4 => ⟨rfl, (ex.trans e3).trans e4⟩
    · have hb := of_decide_eq_false hb
      refine q_while (fun m σ' H' => ∃ (lo hi : Int) (s3 : Option V), σ' = [some (.int n), some (.int lo), some (.int hi), s3] ∧ 0 ≤ lo ∧ lo < hi ∧ hi ≤ 2147483648 ∧ lo * lo ≤ n ∧ n < hi * hi ∧ m = (hi - lo).toNat ∧ Ex H H') h.toNat ⟨0, h, none, rfl, by omega, by omega, a2, by omega, by omega, by omega, ex.trans e3⟩ (fun m σ' H' hW => ?_)
      obtain ⟨lo, hi, s3, rfl, b1, b2, b3, b4, b5, rfl, ex⟩ := hW
      refine ⟨decide (1 < hi - lo), by walk_at "ev", fun hc H4 e4 => ?_, fun hc H4 e4 => ?_⟩
      · have hc := of_decide_eq_true hc
        refine ⟨fun σ2 H5 => ∃ (lo' hi' : Int) (s3 : Option V), σ2 = [some (.int n), some (.int lo'), some (.int hi'), s3] ∧ 0 ≤ lo' ∧ lo' < hi' ∧ hi' ≤ 2147483648 ∧ lo' * lo' ≤ n ∧ n < hi' * hi' ∧ hi' - lo' < hi - lo ∧ Ex H H5, fun σ2 H5 hN => ?_, ?_⟩
        · obtain ⟨lo', hi', s3', rfl, c1, c2, c3, c4, c5, c6, ex5⟩ := hN
          exact ⟨(hi' - lo').toNat, by omega, lo', hi', s3', rfl, c1, c2, c3, c4, c5, rfl, ex5⟩
        · refine q_asg (v := .int ((lo + hi) / 2)) (by walk_at "ev") fun H5 e5 => ?_
          have d1 : lo < (lo + hi) / 2 := by omega
          have d2 : (lo + hi) / 2 < hi := by omega
          generalize (lo + hi) / 2 = half at d1 d2
          refine s_if (b := decide (half * half ≤ n)) (by walk_at "ev") (fun hd H6 e6 => ?_) (fun hd H6 e6 => ?_)
          · have hd := of_decide_eq_true hd
            exact s_asg (v := .int half) (ev_var rfl) fun H7 e7 => ⟨half, hi, _, rfl, by omega, d2, b3, hd, b5, by omega, (((ex.trans e4).trans e5).trans e6).trans e7⟩
          · have hd := of_decide_eq_false hd
            exact s_asg (v := .int half) (ev_var rfl) fun H7 e7 => ⟨lo, half, _, rfl, b1, d1, by omega, b4, by omega, by omega, (((ex.trans e4).trans e5).trans e6).trans e7⟩
      · have hc := of_decide_eq_false hc
        have e : hi = lo + 1 := by omega
        subst e
        rw [rt_uni b1 b4 b5]
        exact s_ret (ev_var rfl) fun H5 e5 => q.go ((ex.trans e4).trans e5)
/-! the drawn number -/
def sp_law_number_by (K : PySem.W.Frag) : Sp := fun vs H Q _ => ∃ x most : Int, vs = [.int x, .int most] ∧ 60 ≤ most ∧ most ≤ 100000 ∧ RetV (.int (byN x most)) H Q
theorem spv_law_number_by {x most : Int} {H : Hp} (h0 : 60 ≤ most) (h1 : most ≤ 100000) : SpV (sp_law_number_by K) [.int x, .int most] H (.int (byN x most)) := fun _ _ _ q _ => ⟨x, most, rfl, h0, h1, q⟩
local macro_rules | `(tactic| walk_at "sp") => `(tactic| exact spv_law_number_by (by omega) (by omega))
theorem ok_law_number_by (T : Txt K mg) : FnOk P w K mg base CX0 2 T.a_law_number_by T.d_law_number_by ["_law_number_here", "_law_most"] (sp_law_number_by K) := by
  have G_law_root := ok_law_root (P := P) (w := w) (base := base) T
  refine T.F_law_number_by.ok sc_law_number_by (fun vs H Q E h => ?_) (fun cdv A outer s H vs Q E hr h => ?_)
  · obtain ⟨x, most, rfl, _⟩ := h; rfl
  · obtain ⟨x, most, rfl, h0, h1, q⟩ := h
    refine ⟨_, 
      (pss_cons (ps_set (i := 2) sc_law_number_by.nd rfl (.inl rfl) (pe_op op_add pe_int (pe_op op_mod (pe_op op_fdivA (pv 0) pe_int) (pe_op op_sub (pv 1) pe_int)))) 
      (pss_cons (ps_if (pt_cmpR op_eq (pe_op op_mod (pv 0) pe_int) pe_int (nomark _)) (
        (pss_cons (ps_set (i := 3) sc_law_number_by.nd rfl (.inl rfl) (pe_op op_add pe_int (pe_op op_mod (pe_op op_fdivA (pv 0) pe_int) (pe_op op_sub (pe_call G_law_root hr (by rfl) T.g_law_root T.F_law_root.kp T.b_law_root .nil pass0 (pa_cons (pv 1) pa_nil)) pe_int)))) 
        (pss_one (ps_set (i := 2) sc_law_number_by.nd rfl (.inl rfl) (pe_op op_add (pe_op op_mulA (pv 3) (pv 3)) (pe_ix (kix_list (K := K) rfl) (pe_lst (pa_cons (pe_un un_neg pe_int) (pa_cons (pe_un un_neg pe_int) (pa_cons pe_int (pa_cons pe_int pa_nil))))) (pe_op op_mod (pe_op op_fdivA (pv 0) pe_int) pe_int) (fun _ _ => rfl))))))) (pss_nil)) 
      (pss_cons (ps_if (pt_cmpR op_eq (pe_op op_mulA (pe_call G_law_root hr (by rfl) T.g_law_root T.F_law_root.kp T.b_law_root .nil pass0 (pa_cons (pv 2) pa_nil)) (pe_call G_law_root hr (by rfl) T.g_law_root T.F_law_root.kp T.b_law_root .nil pass0 (pa_cons (pv 2) pa_nil))) (pv 2) (nomark _)) (
        (pss_one (ps_set (i := 2) sc_law_number_by.nd rfl (.inl rfl) (pe_op op_add (pv 2) pe_int)))) (pss_nil)) 
      (pss_one (ps_ret (pv 2)))))), ?_⟩
    have r7 : 7 ≤ rt most := rt_ge (by omega) (by decide) (by omega)
    have r9 : rt most ≤ 1000 := rt_le (by omega) (by decide) (by omega)
    refine q_asg (v := .int (2 + x / 5 % (most - 1))) (by walk_at "ev") fun H1 e1 => ?_
    have key := by0_ok (x := x) h0
    have fin : ∀ (s3 : Option V) (H2 : Hp), Ex H H2 → tSeq (tIfS (tTest (tOp rEq (tOp (rI CMulA fun i j => .int (i * j)) (tCall (sp_law_root K) [] E0 (tCons (tVar 2) tNil)) (tCall (sp_law_root K) [] E0 (tCons (tVar 2) tNil))) (tVar 2))) (tAsg (tOp (rI0 fun i j => .int (i + j)) (tVar 2) (tC (.int 1))) (gName 2)) tNext) (tRet (tVar 2)) { nx := fun _ H' => Q .non H', rt := Q } [some (.int x), some (.int most), some (.int (by0 x most)), s3] H2 := fun s3 H2 e2 => by
      have rq := rt_spec (show 0 ≤ by0 x most by omega)
      have r9' : rt (by0 x most) ≤ 1000 := rt_le (by omega) (by decide) (by omega)
      have en : byN x most = if rt (by0 x most) * rt (by0 x most) = by0 x most then by0 x most + 1 else by0 x most := rfl
      generalize by0 x most = f at *
      refine q_when (b := decide (rt f * rt f = f)) (by walk_at "ev") (fun hd H3 e3 => ?_) (fun hd H3 e3 => ?_)
      · have hd := of_decide_eq_true hd
        rw [if_pos hd] at en
        refine s_asg (v := .int (f + 1)) (by walk_at "ev") fun H4 e4 => ?_
        rw [en] at q
        exact s_ret (ev_var rfl) fun H5 e5 => q.go (((e2.trans e3).trans e4).trans e5)
      · have hd := of_decide_eq_false hd
        rw [if_neg hd] at en
        rw [en] at q
        exact s_ret (ev_var rfl) fun H5 e5 => q.go ((e2.trans e3).trans e5)
    refine q_when (b := decide (x % 5 = 1)) (by walk_at "ev") (fun hb H2 e2 => ?_) (fun hb H2 e2 => ?_)
    · have hb := of_decide_eq_true hb
      refine q_asg (v := .int (2 + x / 5 % (rt most - 2))) (by walk_at "ev") fun H3 e3 => ?_
      have a := Int.emod_nonneg (x / 5) (show rt most - 2 ≠ 0 by omega)
      have b := Int.emod_lt_of_pos (x / 5) (show 0 < rt most - 2 by omega)
      have eb : by0 x most = (2 + x / 5 % (rt most - 2)) * (2 + x / 5 % (rt most - 2)) + (if x / 9999 % 4 = 0 then -2 else if x / 9999 % 4 = 1 then -1 else if x / 9999 % 4 = 2 then 1 else 2) := by unfold by0; rw [if_pos hb]
      generalize x / 5 % (rt most - 2) = y at *
      obtain ⟨j, ej, ev⟩ : ∃ j : Nat, x / 9999 % 4 = (j : Int) ∧ [V.int (-2), .int (-1), .int 1, .int 2][j]? = some (.int (if x / 9999 % 4 = 0 then -2 else if x / 9999 % 4 = 1 then -1 else if x / 9999 % 4 = 2 then 1 else 2)) := by
        have c : x / 9999 % 4 = 0 ∨ x / 9999 % 4 = 1 ∨ x / 9999 % 4 = 2 ∨ x / 9999 % 4 = 3 := by omega
        rcases c with c | c | c | c
        · exact ⟨0, c, by rw [c]; rfl⟩
        · exact ⟨1, c, by rw [c]; rfl⟩
        · exact ⟨2, c, by rw [c]; rfl⟩
        · exact ⟨3, c, by rw [c]; rfl⟩
      have em : Ev (tOp (rIxL K) (tLst (tCons (tUn (rU fun i => .int (-i)) (tC (.int 2))) (tCons (tUn (rU fun i => .int (-i)) (tC (.int 1))) (tCons (tC (.int 1)) (tCons (tC (.int 2)) tNil))))) (tOp (rI (fun _ j => 0 < j) fun i j => .int (i % j)) (tOp (rI CDivA fun i j => .int (i / j)) (tVar 0) (tC (.int 9999))) (tC (.int 4)))) [some (.int x), some (.int most), some (.int (2 + x / 5 % (most - 1))), some (.int (2 + y))] H3 (.int (if x / 9999 % 4 = 0 then -2 else if x / 9999 % 4 = 1 then -1 else if x / 9999 % 4 = 2 then 1 else 2)) :=
        ev_menu (n := j) (vs := [V.int (-2), .int (-1), .int 1, .int 2]) (by walk_at "ev") (by show (4 : Nat) ≤ 100000; decide) (by walk_at "ev") ej ev
      refine s_asg (v := .int (by0 x most)) (by rw [eb]; exact ev_add (by walk_at "ev") em) fun H4 e4 => ?_
      exact fin _ H4 (((e1.trans e2).trans e3).trans e4)
    · have hb := of_decide_eq_false hb
      have eb : by0 x most = 2 + x / 5 % (most - 1) := by unfold by0; rw [if_neg hb]
      rw [eb] at fin
      exact fin _ H2 (e1.trans e2)

/-! what is good, what is refused, by what it is -/
def NotNum : D → Prop
  | .int _ => False
  | _ => True
def GRoot (ds : List D) : Prop := ∃ n : Int, ds = [.int n] ∧ 0 ≤ n ∧ n.natAbs < 2 ^ 250
def GNum (ds : List D) : Prop := ∃ n : Int, ds = [.int n] ∧ Nsq n ∧ n ≤ 100000
def GMany (most : Int) (ds : List D) : Prop := ∃ n m : Int, ds = [.int n, .int m] ∧ Nsq n ∧ n ≤ 100000 ∧ 0 ≤ m ∧ m ≤ most ∧ (n ≤ 3000 ∨ m ≤ 3)
def GTold (ds : List D) : Prop := ∃ n c : Int, ds = [.int n, .int c] ∧ Nsq n ∧ n ≤ 100000 ∧ c ≠ 0 ∧ c * c < n ∧ (n ≤ 3000 ∨ c = 1)
def Pr (d : D) : Prop := ∃ a b : Int, d = .tup [.int a, .int b] ∧ a.natAbs < 2 ^ 250 ∧ b.natAbs < 2 ^ 250
def GPair (ds : List D) : Prop := ∃ (n : Int) (d : D), ds = [.int n, d] ∧ Nsq n ∧ n ≤ 100000 ∧ Pr d
def GPairs (ds : List D) : Prop := ∃ (n : Int) (d e : D), ds = [.int n, d, e] ∧ Nsq n ∧ n ≤ 100000 ∧ Pr d ∧ Pr e
/-- no number from lo to hi -/
def BadNum (lo hi : Int) (d : D) : Prop := NotNum d ∨ ∃ i : Int, d = .int i ∧ (i < lo ∨ hi < i) ∧ i.natAbs < 2 ^ 250
def Squ (n : Int) : Prop := 2 ≤ n ∧ n ≤ 100000 ∧ rt n * rt n = n
def Ran (n : Int) : Prop := 2 ≤ n ∧ n ≤ 100000
/-- the things that the law hands in as a pair and that are none -/
inductive BadPair : D → Prop
  | non : BadPair .non
  | int (i : Int) : BadPair (.int i)
  | lst (xs : List D) : BadPair (.lst xs)
  | one : BadPair (.tup [.int 1])
  | three : BadPair (.tup [.int 1, .int 1, .int 1])
  | fst (d : D) (h : NotNum d) : BadPair (.tup [d, .int 1])
  | snd (d : D) (h : NotNum d) : BadPair (.tup [.int 1, d])
  | dct : BadPair .dct
def BRoot (ds : List D) (r : Bool) : Prop := ∃ d, ds = [d] ∧ r = false ∧ (NotNum d ∨ ∃ i : Int, d = .int i ∧ i < 0 ∧ i.natAbs < 2 ^ 250)
def BNum (ds : List D) (r : Bool) : Prop := ∃ d, ds = [d] ∧ ((r = false ∧ BadNum 2 100000 d) ∨ (r = true ∧ ∃ n, d = .int n ∧ Squ n))
def BMany (most : Int) (ds : List D) (r : Bool) : Prop := ∃ d e, ds = [d, e] ∧ ((r = false ∧ BadNum 2 100000 d) ∨ (r = false ∧ (∃ n, d = .int n ∧ Ran n) ∧ BadNum 0 most e) ∨ (r = true ∧ (∃ n, d = .int n ∧ Squ n) ∧ ∃ m, e = .int m ∧ 0 ≤ m ∧ m ≤ most))
def BTold (ds : List D) (r : Bool) : Prop := ∃ d e, ds = [d, e] ∧ ((r = false ∧ BadNum 2 100000 d) ∨ (r = false ∧ (∃ n, d = .int n ∧ Ran n) ∧ NotNum e) ∨ (r = true ∧ (∃ n, d = .int n ∧ Squ n) ∧ ∃ c, e = .int c ∧ c.natAbs < 2 ^ 250) ∨
  (r = false ∧ ∃ n c, d = .int n ∧ Nsq n ∧ n ≤ 100000 ∧ e = .int c ∧ c.natAbs < 2 ^ 250 ∧ (c = 0 ∨ n ≤ c * c)))
def BPair (ds : List D) (r : Bool) : Prop := ∃ d e, ds = [d, e] ∧ ((r = false ∧ BadNum 2 100000 d) ∨ (r = true ∧ ∃ n, d = .int n ∧ Squ n) ∨ (r = false ∧ (∃ n, d = .int n ∧ Nsq n ∧ n ≤ 100000) ∧ BadPair e))
def BPairs (ds : List D) (r : Bool) : Prop := ∃ d e f, ds = [d, e, f] ∧ ((r = false ∧ BadNum 2 100000 d) ∨ (r = true ∧ ∃ n, d = .int n ∧ Squ n) ∨ (r = false ∧ (∃ n, d = .int n ∧ Nsq n ∧ n ≤ 100000) ∧ (BadPair e ∨ (Pr e ∧ BadPair f))))
def SpOk (ok : List D → Prop) : Sp := fun vs H Q _ => ∃ ds, HasA H ds vs ∧ ok ds ∧ ∀ v H1, Ex H H1 → Q v H1
def SpBad (cN cR : Addr) (bad : List D → Bool → Prop) : Sp := fun vs H _ E => ∃ ds r, HasA H ds vs ∧ bad ds r ∧ ∀ H1, Ex H H1 → E (.ref (if r = true then cR else cN)) none H1
section
variable {σ : L2.St} {H : Hp} {ta : TA} {De : Ends} {vs : List V} {ds : List D} {r : Bool} {cN cR : Addr}
theorem s_dropOk {ok : List D → Prop} {E : XK} (h : EvA ta σ H vs) (hd : HasA H ds vs) (g : ok ds) (k : ∀ H1, Ex H H1 → De.nx σ H1) : tDrop (tCall (SpOk ok) [] E ta) De σ H :=
  h H (Ex.refl H) _ fun H1 e1 => ⟨ds, by rw [List.append_nil]; exact hd.mono e1, g, fun v H2 e2 => k H2 (e1.trans e2)⟩
theorem s_dropBad {bad : List D → Bool → Prop} {E : L2.St → XK} (h : EvA ta σ H vs) (hd : HasA H ds vs) (g : bad ds r) (k : ∀ H1, Ex H H1 → E σ (.ref (if r = true then cR else cN)) none H1) : tDrop (tCallS (SpBad cN cR bad) E ta) De σ H :=
  h H (Ex.refl H) _ fun H1 e1 => ⟨ds, r, hd.mono e1, g, fun H2 e2 => k H2 (e1.trans e2)⟩
end

/-! numbers, roots, squares -/
def isInt : D → Bool
  | .int _ => true
  | _ => false
theorem notNum_isInt {d : D} (h : NotNum d) : isInt d = false := by
  cases d <;> first | rfl | exact False.elim h
theorem kb_0b : kitB "NoneType" "int" = some false := by decide +kernel
theorem kb_s : kitB "str" "int" = some false := by decide +kernel
theorem kb_l : kitB "list" "int" = some false := by decide +kernel
theorem kb_t : kitB "tuple" "int" = some false := by decide +kernel
theorem kb_d : kitB "dict" "int" = some false := by decide +kernel
def sp_is_number (K : PySem.W.Frag) : Sp := fun vs H Q _ => ∃ d v, vs = [v] ∧ Has H d v ∧ RetV (.bl (isInt d)) H Q
theorem ok_is_number (T : Txt K mg) : FnOk P w K mg base CX0 1 T.a_is_number T.d_is_number ["value"] (sp_is_number K) := by
  refine T.F_is_number.ok sc_is_number (fun vs H Q E h => ?_) (fun cdv A outer s H vs Q E hr h => ?_)
  · obtain ⟨d, v, rfl, _⟩ := h; rfl
  · obtain ⟨d, v, rfl, hv, q⟩ := h
    refine ⟨_, 
      (pss_one (ps_ret (pe_and (pe_callB (id := "isinstance") (kisi (K := K) rfl) (by rfl) T.z_isinstance (by decide +kernel) (pa_cons (pv 0) (pa_cons (pe_bltn (v := .ty "int") (u := .type "int") (by rfl) T.z_int (by decide +kernel) rfl) pa_nil))) (pe_one (pe_not (pe_callB (id := "isinstance") (kisi (K := K) rfl) (by rfl) T.z_isinstance (by decide +kernel) (pa_cons (pv 0) (pa_cons (pe_bltn (v := .ty "bool") (u := .type "bool") (by rfl) T.z_bool (by decide +kernel) rfl) pa_nil)))))))), ?_⟩
    refine s_ret (v := .bl (isInt d)) ?_ fun H1 e1 => q.go e1
    cases d with
    | int i => exact ev_is (ev_andV (ev_isD (ev_var rfl) hv kb_ii) fun _ => ev_notV (ev_isD (ev_var rfl) hv kb_ib)) rfl
    | bl b => exact ev_is (ev_andV (ev_isD (ev_var rfl) hv kb_bi) fun _ => ev_notV (ev_isD (ev_var rfl) hv kb_bb)) rfl
    | non => exact ev_is (ev_andV (b := false) (ev_isD (ev_var rfl) hv kb_0b) fun z => nomatch z) rfl
    | str s => exact ev_is (ev_andV (b := false) (ev_isD (ev_var rfl) hv kb_s) fun z => nomatch z) rfl
    | lst xs => exact ev_is (ev_andV (b := false) (ev_isD (ev_var rfl) hv kb_l) fun z => nomatch z) rfl
    | tup xs => exact ev_is (ev_andV (b := false) (ev_isD (ev_var rfl) hv kb_t) fun z => nomatch z) rfl
    | dct => exact ev_is (ev_andV (b := false) (ev_isD (ev_var rfl) hv kb_d) fun z => nomatch z) rfl
theorem spv_is_number {d : D} {v : V} {H : Hp} (hv : Has H d v) : SpV (sp_is_number K) [v] H (.bl (isInt d)) := fun H1 e1 Q q _ => ⟨d, v, rfl, hv.mono e1, q⟩
def sp_whole_root (K : PySem.W.Frag) : Sp := fun vs H Q _ => ∃ n : Int, vs = [.int n] ∧ 0 ≤ n ∧ n.natAbs < 2 ^ 250 ∧ RetV (.int (rt n)) H Q
theorem spv_whole_root {n : Int} {H : Hp} (h0 : 0 ≤ n) (h1 : n.natAbs < 2 ^ 250) : SpV (sp_whole_root K) [.int n] H (.int (rt n)) := fun _ _ _ q _ => ⟨n, rfl, h0, h1, q⟩
theorem okE_whole_root (T : Txt K mg) : FnOk P w K mg base CX0 2 T.a_whole_root T.d_whole_root ["number"] (sp_whole_root K) := by
  have G_is_number := ok_is_number (P := P) (w := w) (base := base) T
  refine T.F_whole_root.ok sc_whole_root (fun vs H Q E h => ?_) (fun cdv A outer s H vs Q E hr h => ?_)
  · obtain ⟨n, rfl, _⟩ := h; rfl
  · obtain ⟨n, rfl, h0, h1, q⟩ := h
    refine ⟨_, 
      (pss_cons (ps_if (PW.pt (pw_or (pt_not (pt_val (pe_call G_is_number hr (by rfl) T.g_is_number T.F_is_number.kp T.b_is_number .nil pass0 (pa_cons (pv 0) pa_nil)))) (pw_or1 (pt_cmpR op_lt (pv 0) pe_int (nomark _))))) (
        (pss_one (ps_never))) (pss_nil)) 
      (pss_one (ps_ret (pe_callBfun cr_isqrt (by rfl) T.g_isqrt (pa_cons (pv 0) pa_nil))))), ?_⟩
    refine q_when (b := false) (et_is (et_or (et_not (et_test (ev_call (ea_cons (ev_var rfl) ea_nil) (spv_is_number (d := .int n) rfl)))) fun _ => et_test (ev_lt (ev_var rfl) ev_c)) (by rw [decide_eq_false (by omega)]; rfl)) (fun z => nomatch z) (fun _ H1 e1 => ?_)
    exact s_ret (ev_isq (ev_var rfl) h0 (Nat.lt_of_lt_of_le (log2_lt (k := 250) (by omega) (by decide)) (by decide))) fun H2 e2 => q.go (e1.trans e2)
theorem okB_whole_root (T : Txt K mg) : FnOk P w K mg base (CX P w) 2 T.a_whole_root T.d_whole_root ["number"] (SpBad T.cN T.cR BRoot) := by
  have G_is_number := ok_is_number (P := P) (w := w) (base := base) T
  refine T.F_whole_root.okX sc_whole_root (fun vs H Q E h => ?_) (fun cdv A outer s H vs Q E hr h => ?_)
  · obtain ⟨ds, r, hA, ⟨d, rfl, _⟩, _⟩ := h; rw [hA.len]; rfl
  · obtain ⟨ds, r, hA, ⟨d, rfl, rfl, hd⟩, q⟩ := h
    obtain ⟨v, _, rfl, hv, rfl⟩ := hA
    refine ⟨_, 
      (pss_cons (ps_if (PW.pt (pw_or (pt_not (pt_val (pe_call G_is_number hr (by rfl) T.g_is_number T.F_is_number.kp T.b_is_number .nil pass0 (pa_cons (pv 0) pa_nil)))) (pw_or1 (pt_cmpR op_lt (pv 0) pe_int (nomark _))))) (
        (pss_one (ps_raise rfl (takes_of rfl rfl rfl rfl) (pmk_own PySem.F.excBase_ValueError T.cf.xN T.g_NoNumber T.cf.kN (raises_own T.cf.bN T.cf.tN) (by rfl))))) (pss_nil)) 
      (pss_one (ps_ret (pe_callBfun cr_isqrt (by rfl) T.g_isqrt (pa_cons (pv 0) pa_nil))))), ?_⟩
    refine q_when (b := true) ?_ (fun _ H1 e1 => q H1 e1) (fun z => nomatch z)
    rcases hd with hd | ⟨i, rfl, hi, _⟩
    · exact et_is (et_or (b := true) (et_not (et_test (ev_call (ea_cons (ev_var rfl) ea_nil) (spv_is_number hv)))) fun z => by rw [notNum_isInt hd] at z; cases z) (by rw [notNum_isInt hd]; rfl)
    · cases (show v = .int i from hv)
      exact et_is (et_or (et_not (et_test (ev_call (ea_cons (ev_var rfl) ea_nil) (spv_is_number (d := .int i) rfl)))) fun _ => et_test (ev_lt (ev_var rfl) ev_c)) (by rw [decide_eq_true hi]; rfl)
theorem s_asgX {sp : Sp} {E : L2.St → XK} {ta : TA} {σ : L2.St} {H : Hp} {De : Ends} {vs : List V} {g : TG} {tz : TS} (h : EvA ta σ H vs) (k : ∀ H1, Ex H H1 → ∀ Q, sp vs H1 Q (E σ)) : tSeq (tAsg (tCallS sp E ta) g) tz De σ H := h H (Ex.refl H) _ fun H1 e1 => k H1 e1 _
theorem rt_size {n : Int} (h0 : 0 ≤ n) (h1 : n.natAbs < 2 ^ 250) : (rt n).natAbs < 2 ^ 250 := by
  have a := rt_spec h0
  have b : rt n ≤ n := by
    by_cases z : rt n ≤ 0
    · omega
    · have := Int.mul_le_mul (show (1 : Int) ≤ rt n by omega) (Int.le_refl (rt n)) a.1 a.1
      omega
  omega
theorem ok_is_square (T : Txt K mg) : FnOk P w K mg base CX0 3 T.a_is_square T.d_is_square ["number"] (SpOk GRoot) := by
  have G_whole_root := okE_whole_root (P := P) (w := w) (base := base) T
  refine T.F_is_square.ok sc_is_square (fun vs H Q E h => ?_) (fun cdv A outer s H vs Q E hr h => ?_)
  · obtain ⟨ds, hA, ⟨n, rfl, _⟩, _⟩ := h; rw [hA.len]; rfl
  · obtain ⟨ds, hA, ⟨n, rfl, h0, h1⟩, q⟩ := h
    obtain ⟨v, _, rfl, hv, rfl⟩ := hA
    cases (show v = .int n from hv)
    have hs := rt_size h0 h1
    refine ⟨_, 
      (pss_cons (ps_set (i := 1) sc_is_square.nd rfl (.inl rfl) (pe_call G_whole_root hr (by rfl) T.g_whole_root T.F_whole_root.kp T.b_whole_root .nil pass0 (pa_cons (pv 0) pa_nil))) 
      (pss_one (ps_ret (pe_cmpR op_eq (pe_op op_mulA (pv 1) (pv 1)) (pv 0) (nomark _))))), ?_⟩
    refine q_asg (v := .int (rt n)) (ev_call (ea_cons (ev_var rfl) ea_nil) (spv_whole_root h0 h1)) fun H1 e1 => ?_
    exact s_ret (ev_eqI (ev_mul (ev_var rfl) (ev_var rfl) (cmulW hs hs)) (ev_var rfl)) fun H2 e2 => q _ H2 (e1.trans e2)
theorem okB_is_square (T : Txt K mg) : FnOk P w K mg base (CX P w) 3 T.a_is_square T.d_is_square ["number"] (SpBad T.cN T.cR BRoot) := by
  have GB_whole_root := okB_whole_root (P := P) (w := w) (base := base) T
  refine T.F_is_square.okX sc_is_square (fun vs H Q E h => ?_) (fun cdv A outer s H vs Q E hr h => ?_)
  · obtain ⟨ds, r, hA, ⟨d, rfl, _⟩, _⟩ := h; rw [hA.len]; rfl
  · obtain ⟨ds, r, hA, ⟨d, rfl, rfl, hd⟩, q⟩ := h
    obtain ⟨v, _, rfl, hv, rfl⟩ := hA
    refine ⟨_, 
      (pss_cons (ps_set (i := 1) sc_is_square.nd rfl (.inl rfl) (pe_callS GB_whole_root hr (by rfl) T.g_whole_root T.F_whole_root.kp T.b_whole_root (passAt (takes_of rfl rfl rfl rfl)) (pa_cons (pv 0) pa_nil))) 
      (pss_one (ps_ret (pe_cmpR op_eq (pe_op op_mulA (pv 1) (pv 1)) (pv 0) (nomark _))))), ?_⟩
    exact s_asgX (ea_cons (ev_var rfl) ea_nil) fun H1 e1 Q' => ⟨[d], false, ⟨v, _, rfl, hv.mono e1, rfl⟩, ⟨d, rfl, rfl, hd⟩, fun H2 e2 => q H2 (e1.trans e2)⟩
theorem ok_whole_root (T : Txt K mg) : FnOk P w K mg base CX0 2 T.a_whole_root T.d_whole_root ["number"] (SpOk GRoot) :=
  (okE_whole_root (P := P) (w := w) (base := base) T).imp fun vs H Q E h => by
    obtain ⟨ds, hA, ⟨n, rfl, h0, h1⟩, q⟩ := h
    obtain ⟨v, _, rfl, hv, rfl⟩ := hA
    cases (show v = .int n from hv)
    exact ⟨n, rfl, h0, h1, fun H1 e1 => q _ H1 e1⟩

theorem spn_is_number {n : Int} {H : Hp} : SpV (sp_is_number K) [.int n] H (.bl true) := spv_is_number (d := .int n) rfl
/-! PROGQ is_square, told -/
theorem n250 {n : Int} (h : n.natAbs < 2 ^ 60) : n.natAbs < 2 ^ 250 := pw_mono h (by decide)
def sp_is_square (K : PySem.W.Frag) : Sp := fun vs H Q _ => ∃ n : Int, vs = [.int n] ∧ 0 ≤ n ∧ n.natAbs < 2 ^ 250 ∧ RetV (.bl (decide (rt n * rt n = n))) H Q
theorem spv_is_square {n : Int} {H : Hp} (h0 : 0 ≤ n) (h1 : n.natAbs < 2 ^ 250) : SpV (sp_is_square K) [.int n] H (.bl (decide (rt n * rt n = n))) := fun _ _ _ q _ => ⟨n, rfl, h0, h1, q⟩
theorem okE_is_square (T : Txt K mg) : FnOk P w K mg base CX0 3 T.a_is_square T.d_is_square ["number"] (sp_is_square K) := by
  have G_whole_root := okE_whole_root (P := P) (w := w) (base := base) T
  refine T.F_is_square.ok sc_is_square (fun vs H Q E h => ?_) (fun cdv A outer s H vs Q E hr h => ?_)
  · obtain ⟨n, rfl, _⟩ := h; rfl
  · obtain ⟨n, rfl, h0, h1, q⟩ := h
    have hs := rt_size h0 h1
    refine ⟨_, 
      (pss_cons (ps_set (i := 1) sc_is_square.nd rfl (.inl rfl) (pe_call G_whole_root hr (by rfl) T.g_whole_root T.F_whole_root.kp T.b_whole_root .nil pass0 (pa_cons (pv 0) pa_nil))) 
      (pss_one (ps_ret (pe_cmpR op_eq (pe_op op_mulA (pv 1) (pv 1)) (pv 0) (nomark _))))), ?_⟩
    refine q_asg (v := .int (rt n)) (ev_call (ea_cons (ev_var rfl) ea_nil) (spv_whole_root h0 h1)) fun H1 e1 => ?_
    exact s_ret (ev_eqI (ev_mul (ev_var rfl) (ev_var rfl) (cmulW hs hs)) (ev_var rfl)) fun H2 e2 => q.go (e1.trans e2)

/-! PROGC the program's functions: roots and checks, of good ones -/
def sp_check_any (K : PySem.W.Frag) : Sp := fun vs H Q _ => ∃ n : Int, vs = [.int n] ∧ RetV .non H Q
theorem spv_check_any {n : Int} {H : Hp} : SpV (sp_check_any K) [.int n] H .non := fun _ _ _ q _ => ⟨n, rfl, q⟩
def sp_check_between (K : PySem.W.Frag) : Sp := fun vs H Q _ => ∃ n lo hi : Int, vs = [.int n, .int lo, .int hi] ∧ lo ≤ n ∧ n ≤ hi ∧ RetV .non H Q
theorem spv_check_between {n lo hi : Int} {H : Hp} (h0 : lo ≤ n) (h1 : n ≤ hi) : SpV (sp_check_between K) [.int n, .int lo, .int hi] H .non := fun _ _ _ q _ => ⟨n, lo, hi, rfl, h0, h1, q⟩
def sp_check_number (K : PySem.W.Frag) : Sp := fun vs H Q _ => ∃ n : Int, vs = [.int n] ∧ 2 ≤ n ∧ n ≤ 100000 ∧ RetV .non H Q
theorem spv_check_number {n : Int} {H : Hp} (h0 : 2 ≤ n) (h1 : n ≤ 100000) : SpV (sp_check_number K) [.int n] H .non := fun _ _ _ q _ => ⟨n, rfl, h0, h1, q⟩
def sp_check_root (K : PySem.W.Frag) : Sp := fun vs H Q _ => ∃ n : Int, vs = [.int n] ∧ Nsq n ∧ n ≤ 100000 ∧ RetV .non H Q
theorem spv_check_root {n : Int} {H : Hp} (h0 : Nsq n) (h1 : n ≤ 100000) : SpV (sp_check_root K) [.int n] H .non := fun _ _ _ q _ => ⟨n, rfl, h0, h1, q⟩
def sp_check_pair (K : PySem.W.Frag) : Sp := fun vs H Q _ => ∃ (p : Addr) (x y : Int), vs = [.ref p] ∧ H p = some (.tup [.int x, .int y]) ∧ RetV .non H Q
theorem spv_check_pair {p : Addr} {x y : Int} {H : Hp} (h : H p = some (.tup [.int x, .int y])) : SpV (sp_check_pair K) [.ref p] H .non := fun _ e _ q _ => ⟨p, x, y, rfl, e _ _ h, q⟩
theorem okE_check_any (T : Txt K mg) : FnOk P w K mg base CX0 2 T.a_check_any T.d_check_any ["value"] (sp_check_any K) := by
  have G_is_number := ok_is_number (P := P) (w := w) (base := base) T
  refine T.F_check_any.ok sc_check_any (fun vs H Q E h => ?_) (fun cdv A outer s H vs Q E hr h => ?_)
  · obtain ⟨n, rfl, _⟩ := h; rfl
  · obtain ⟨n, rfl, q⟩ := h
    refine ⟨_, 
      (pss_one (ps_if (pt_not (pt_val (pe_call G_is_number hr (by rfl) T.g_is_number T.F_is_number.kp T.b_is_number .nil pass0 (pa_cons (pv 0) pa_nil)))) (
        (pss_one (ps_never))) (pss_nil))), ?_⟩
    exact s_when (b := false) (et_is (et_not (et_test (ev_call (ea_cons (ev_var rfl) ea_nil) spn_is_number))) rfl) (fun z => nomatch z) fun _ H1 e1 => q.go e1
theorem okE_check_between (T : Txt K mg) : FnOk P w K mg base CX0 2 T.a_check_between T.d_check_between ["value", "least", "greatest"] (sp_check_between K) := by
  have G_is_number := ok_is_number (P := P) (w := w) (base := base) T
  refine T.F_check_between.ok sc_check_between (fun vs H Q E h => ?_) (fun cdv A outer s H vs Q E hr h => ?_)
  · obtain ⟨n, lo, hi, rfl, _⟩ := h; rfl
  · obtain ⟨n, lo, hi, rfl, h0, h1, q⟩ := h
    refine ⟨_, 
      (pss_one (ps_if (PW.pt (pw_or (pt_not (pt_val (pe_call G_is_number hr (by rfl) T.g_is_number T.F_is_number.kp T.b_is_number .nil pass0 (pa_cons (pv 0) pa_nil)))) (pw_or (pt_cmpR op_lt (pv 0) (pv 1) (nomark _)) (pw_or1 (pt_cmpR op_gt (pv 0) (pv 2) (nomark _)))))) (
        (pss_one (ps_never))) (pss_nil))), ?_⟩
    exact s_when (b := false) (et_is (et_or (et_not (et_test (ev_call (ea_cons (ev_var rfl) ea_nil) spn_is_number))) fun _ => et_or (et_test (ev_lt (ev_var rfl) (ev_var rfl))) fun _ => et_test (ev_gt (ev_var rfl) (ev_var rfl))) (by
      rw [decide_eq_false (show ¬ n < lo by omega), decide_eq_false (show ¬ hi < n by omega)]; rfl)) (fun z => nomatch z) fun _ H1 e1 => q.go e1
theorem okE_check_number (T : Txt K mg) : FnOk P w K mg base CX0 3 T.a_check_number T.d_check_number ["number"] (sp_check_number K) := by
  have G_check_between := okE_check_between (P := P) (w := w) (base := base) T
  refine T.F_check_number.ok sc_check_number (fun vs H Q E h => ?_) (fun cdv A outer s H vs Q E hr h => ?_)
  · obtain ⟨n, rfl, _⟩ := h; rfl
  · obtain ⟨n, rfl, h0, h1, q⟩ := h
    refine ⟨_, 
      (pss_one (ps_expr (pe_call G_check_between hr (by rfl) T.g_check_between T.F_check_between.kp T.b_check_between .nil pass0 (pa_cons (pv 0) (pa_cons (pe_glob (v := .int 2) (by rfl) T.g_LEAST_NUMBER ⟨_, rfl⟩) (pa_cons (pe_glob (v := .int 100000) (by rfl) T.g_GREATEST_NUMBER ⟨_, rfl⟩) pa_nil)))))), ?_⟩
    exact s_drop (ev_call (ea_cons (ev_var rfl) (ea_cons ev_c (ea_cons ev_c ea_nil))) (spv_check_between h0 h1)) fun H1 e1 => q.go e1
theorem okE_check_root (T : Txt K mg) : FnOk P w K mg base CX0 4 T.a_check_root T.d_check_root ["number"] (sp_check_root K) := by
  have G_is_square := okE_is_square (P := P) (w := w) (base := base) T
  refine T.F_check_root.ok sc_check_root (fun vs H Q E h => ?_) (fun cdv A outer s H vs Q E hr h => ?_)
  · obtain ⟨n, rfl, _⟩ := h; rfl
  · obtain ⟨n, rfl, hn, hle, q⟩ := h
    have n2 := hn.two
    refine ⟨_, 
      (pss_one (ps_if (pt_val (pe_call G_is_square hr (by rfl) T.g_is_square T.F_is_square.kp T.b_is_square .nil pass0 (pa_cons (pv 0) pa_nil))) (
        (pss_one (ps_never))) (pss_nil))), ?_⟩
    exact s_when (b := false) (et_is (et_test (ev_call (ea_cons (ev_var rfl) ea_nil) (spv_is_square (by omega) (n250 (by omega))))) (decide_eq_false hn.ns)) (fun z => nomatch z) fun _ H1 e1 => q.go e1
theorem okE_check_pair (T : Txt K mg) : FnOk P w K mg base CX0 3 T.a_check_pair T.d_check_pair ["value"] (sp_check_pair K) := by
  have G_check_any := okE_check_any (P := P) (w := w) (base := base) T
  refine T.F_check_pair.ok sc_check_pair (fun vs H Q E h => ?_) (fun cdv A outer s H vs Q E hr h => ?_)
  · obtain ⟨p, x, y, rfl, _⟩ := h; rfl
  · obtain ⟨p, x, y, rfl, hp, q⟩ := h
    refine ⟨_, 
      (pss_cons (ps_if (PW.pt (pw_or (pt_not (pt_val (pe_callB (id := "isinstance") (kisi (K := K) rfl) (by rfl) T.z_isinstance (by decide +kernel) (pa_cons (pv 0) (pa_cons (pe_bltn (v := .ty "tuple") (u := .type "tuple") (by rfl) T.z_tuple (by decide +kernel) rfl) pa_nil))))) (pw_or1 (pt_cmpR op_ne (pe_callB (id := "len") (klen (K := K) rfl) (by rfl) T.z_len (by decide +kernel) (pa_cons (pv 0) pa_nil)) pe_int (nomark _))))) (
        (pss_one (ps_never))) (pss_nil)) 
      (pss_one (ps_for PassesOwn.never rfl (pi_tup (pv 0)) (pg_name (i := 1) sc_check_pair.nd rfl (.inl rfl)) (
        (pss_one (ps_expr (pe_call G_check_any hr (by rfl) T.g_check_any T.F_check_any.kp T.b_check_any .nil pass0 (pa_cons (pv 1) pa_nil)))))))), ?_⟩
    refine q_when (b := false) (et_is (et_or (et_not (et_B (ev_isT (ev_var rfl) hp))) fun _ => et_test (ev_neI (ev_lenT (ev_var rfl) (st_of hp)) ev_c)) rfl) (fun z => nomatch z) fun _ H1 e1 => ?_
    refine s_forT (xs := [.int x, .int y]) (ev_var rfl) (st_of (e1 _ _ hp)) (fun i σ' H' => ∃ s1, σ' = [some (.ref p), s1] ∧ Ex H H') (fun H2 e2 => ⟨none, rfl, e1.trans e2⟩) (fun i σ' H' _ h => by obtain ⟨_, _, ex⟩ := h; exact st_of (ex _ _ hp)) (fun i v σ' H' hv h => ?_) (fun σ' H' h => ?_)
    · obtain ⟨s1, rfl, ex⟩ := h
      obtain ⟨z, rfl⟩ : ∃ z, v = .int z := by
        match i, hv with
        | 0, hv => exact ⟨x, (Option.some.inj hv).symm⟩
        | 1, hv => exact ⟨y, (Option.some.inj hv).symm⟩
        | i + 2, hv => simp at hv
      exact s_drop (ev_call (ea_cons (ev_var rfl) ea_nil) spv_check_any) fun H2 e2 => ⟨_, rfl, ex.trans e2⟩
    · obtain ⟨s1, rfl, ex⟩ := h
      exact q.go ex

/-! what ladder tells -/
def sp_ladder (K : PySem.W.Frag) : Sp := fun vs H Q _ => ∃ n : Int, vs = [.int n] ∧ Nsq n ∧ n ≤ 100000 ∧ ∀ (p q : Addr) (H2 : Hp), H p = none → H q = none → p ≠ q → Ex H H2 → H2 p = some (.tup [.int (rt n), .ref q]) → H2 q = some (.lst ((rL n).map V.int)) → Q (.ref p) H2
theorem as_ladder {σ : L2.St} {H : Hp} {ta : TA} {D : Ends} {i : Nat} {n : Int} (h : EvA ta σ H [.int n]) (hn : Nsq n) (hle : n ≤ 100000)
    (k : ∀ (p q : Addr) (H2 : Hp), H p = none → H q = none → p ≠ q → Ex H H2 → H2 p = some (.tup [.int (rt n), .ref q]) → H2 q = some (.lst ((rL n).map V.int)) → D.nx (σ.set i (some (.ref p))) H2) : tAsg (tCall (sp_ladder K) [] E0 ta) (gName i) D σ H :=
  h H (Ex.refl H) _ fun H1 e1 => ⟨n, rfl, hn, hle, fun p q H2 a b c d e f => k p q H2 (fresh_back e1 a) (fresh_back e1 b) c (e1.trans d) e f⟩
theorem aq_ladder {σ : L2.St} {H : Hp} {ta : TA} {D : Ends} {tz : TS} {i : Nat} {n : Int} (h : EvA ta σ H [.int n]) (hn : Nsq n) (hle : n ≤ 100000)
    (k : ∀ (p q : Addr) (H2 : Hp), H p = none → H q = none → p ≠ q → Ex H H2 → H2 p = some (.tup [.int (rt n), .ref q]) → H2 q = some (.lst ((rL n).map V.int)) → tz D (σ.set i (some (.ref p))) H2) : tSeq (tAsg (tCall (sp_ladder K) [] E0 ta) (gName i)) tz D σ H :=
  as_ladder (D := { D with nx := tz D }) h hn hle k
theorem aq_ladder2 {σ : L2.St} {H : Hp} {ta : TA} {D : Ends} {tz : TS} {i j : Nat} {n : Int} (h : EvA ta σ H [.int n]) (hn : Nsq n) (hle : n ≤ 100000)
    (k : ∀ (q : Addr) (H2 : Hp), H q = none → Ex H H2 → H2 q = some (.lst ((rL n).map V.int)) → tz D ((σ.set i (some (.int (rt n)))).set j (some (.ref q))) H2) : tSeq (tAsg (tCall (sp_ladder K) [] E0 ta) (gTup K 2 (gCons (gName i) (gCons (gName j) gNil)))) tz D σ H :=
  h H (Ex.refl H) _ fun H1 e1 => ⟨n, rfl, hn, hle, fun p q H2 a b c d e f => ⟨p, [.int (rt n), .ref q], rfl, st_of e, rfl, .int (rt n), [.ref q], rfl, .ref q, [], rfl, rfl, k q H2 (fresh_back e1 b) (e1.trans d) f⟩⟩

/-! what fractions tells -/
def frL (n many : Int) : List (Int × Int) := (List.range many.toNat).map fun i => Lad.cv n (rt n) (i + 2)
theorem frL_len (n many : Int) : (frL n many).length = many.toNat := by
  unfold frL
  rw [List.length_map, List.length_range]
theorem frL_at {n many : Int} {i : Nat} {p : Int × Int} (h : (frL n many)[i]? = some p) : p = Lad.cv n (rt n) (i + 2) ∧ (i : Int) < many := by
  unfold frL at h
  rw [List.getElem?_map] at h
  cases z : (List.range many.toNat)[i]? with
  | none => rw [z] at h; cases h
  | some j =>
    rw [z] at h
    obtain ⟨hj, e⟩ := List.getElem?_eq_some_iff.mp z
    rw [List.getElem_range] at e
    rw [List.length_range] at hj
    subst e
    exact ⟨(Option.some.inj h).symm, by omega⟩
theorem frL_get {n many : Int} {i : Nat} (h : (i : Int) < many) : (frL n many)[i]? = some (Lad.cv n (rt n) (i + 2)) := by
  unfold frL
  rw [List.getElem?_map, List.getElem?_range (by omega)]
  rfl
def sp_fractions (K : PySem.W.Frag) : Sp := fun vs H Q _ => ∃ n many : Int, vs = [.int n, .int many] ∧ Nsq n ∧ n ≤ 100000 ∧ 0 ≤ many ∧ many ≤ 200 ∧ ∀ (p : Addr) (H2 : Hp) (xs : List V), H p = none → Ex H H2 → H2 p = some (.lst xs) → Prs K H2 xs (frL n many) → Q (.ref p) H2

/-! what worth and times tell, of pairs below 2 ^ b -/
def sp_worth (K : PySem.W.Frag) : Sp := fun vs H Q _ => ∃ (n x y : Int) (p : Addr) (b : Nat), vs = [.int n, .ref p] ∧ Nsq n ∧ n ≤ 100000 ∧ H p = some (.tup [.int x, .int y]) ∧ b ≤ 30000000 ∧ x.natAbs < 2 ^ b ∧ y.natAbs < 2 ^ b ∧ RetV (.int (x * x - n * (y * y))) H Q
theorem spv_worth {n x y : Int} {p : Addr} {H : Hp} (b : Nat) (hn : Nsq n) (hle : n ≤ 100000) (hp : H p = some (.tup [.int x, .int y])) (hb : b ≤ 30000000) (hx : x.natAbs < 2 ^ b) (hy : y.natAbs < 2 ^ b) : SpV (sp_worth K) [.int n, .ref p] H (.int (x * x - n * (y * y))) := fun H1 e _ q _ => ⟨n, x, y, p, b, rfl, hn, hle, e _ _ hp, hb, hx, hy, q⟩
def sp_times (K : PySem.W.Frag) : Sp := fun vs H Q _ => ∃ (n x y u v : Int) (p q : Addr) (b : Nat), vs = [.int n, .ref p, .ref q] ∧ Nsq n ∧ n ≤ 100000 ∧ H p = some (.tup [.int x, .int y]) ∧ H q = some (.tup [.int u, .int v]) ∧ b ≤ 30000000 ∧ (x.natAbs < 2 ^ b ∧ y.natAbs < 2 ^ b ∧ u.natAbs < 2 ^ b ∧ v.natAbs < 2 ^ b) ∧ RetU [.int (x * u + n * (y * v)), .int (x * v + y * u)] H Q
theorem spu_times {n x y u v : Int} {p q : Addr} {H : Hp} (b : Nat) (hn : Nsq n) (hle : n ≤ 100000) (hp : H p = some (.tup [.int x, .int y])) (hq : H q = some (.tup [.int u, .int v])) (hb : b ≤ 30000000) (h : x.natAbs < 2 ^ b ∧ y.natAbs < 2 ^ b ∧ u.natAbs < 2 ^ b ∧ v.natAbs < 2 ^ b) : SpU (sp_times K) [.int n, .ref p, .ref q] H [.int (x * u + n * (y * v)), .int (x * v + y * u)] :=
  fun H1 e _ k _ => ⟨n, x, y, u, v, p, q, b, rfl, hn, hle, e _ _ hp, e _ _ hq, hb, h, k⟩

/-! what least_one and least_less_one tell -/
def ZB : Nat := 4100000
noncomputable def lsp (n : Int) : Int × Int := Lad.one n (rt n) (mOf n) 1
noncomputable def lsm (n : Int) : Int × Int := Lad.cv n (rt n) (mOf n + 1)
theorem cv_ZB {n : Int} (h : Nsq n) (hn : n ≤ 100000) {i : Nat} (hi : i ≤ 409000) : (Lad.cv n (rt n) i).1.natAbs < 2 ^ ZB ∧ (Lad.cv n (rt n) i).2.natAbs < 2 ^ ZB := by
  have a := Lad.cv_sz h.wh (rt_316 (by have := h.two; omega) hn) i
  exact ⟨pw_mono a.1 (by unfold ZB; omega), pw_mono a.2 (by unfold ZB; omega)⟩
theorem lm_le {m : Nat} : Lad.lm m ≤ 2 * m := by
  unfold Lad.lm
  split <;> omega
theorem lsp_sz {n : Int} (h : Nsq n) (hn : n ≤ 100000) : (lsp n).1.natAbs < 2 ^ ZB ∧ (lsp n).2.natAbs < 2 ^ ZB := by
  have a := mOf_le h hn
  have b := lm_le (m := mOf n)
  exact cv_ZB h hn (by rw [Nat.one_mul]; omega)
theorem lsm_sz {n : Int} (h : Nsq n) (hn : n ≤ 100000) : (lsm n).1.natAbs < 2 ^ ZB ∧ (lsm n).2.natAbs < 2 ^ ZB := by
  have a := mOf_le h hn
  exact cv_ZB h hn (by omega)
def sp_least_one (K : PySem.W.Frag) : Sp := fun vs H Q _ => ∃ n : Int, vs = [.int n] ∧ Nsq n ∧ n ≤ 100000 ∧ RetU [.int (lsp n).1, .int (lsp n).2] H Q
theorem spu_least_one {n : Int} {H : Hp} (hn : Nsq n) (hle : n ≤ 100000) : SpU (sp_least_one K) [.int n] H [.int (lsp n).1, .int (lsp n).2] := fun H1 e _ k _ => ⟨n, rfl, hn, hle, k⟩
def sp_least_less_one (K : PySem.W.Frag) : Sp := fun vs H Q _ => ∃ n : Int, vs = [.int n] ∧ Nsq n ∧ n ≤ 100000 ∧ (mOf n % 2 = 1 → RetU [.int (lsm n).1, .int (lsm n).2] H Q) ∧ (mOf n % 2 = 0 → RetV .non H Q)

/-! what ones tells -/
noncomputable def oneL (n many : Int) : List (Int × Int) := (List.range many.toNat).map fun i => Lad.one n (rt n) (mOf n) (i + 1)
theorem oneL_len (n many : Int) : (oneL n many).length = many.toNat := by
  unfold oneL
  rw [List.length_map, List.length_range]
theorem oneL_get {n many : Int} {i : Nat} (h : (i : Int) < many) : (oneL n many)[i]? = some (Lad.one n (rt n) (mOf n) (i + 1)) := by
  unfold oneL
  rw [List.getElem?_map, List.getElem?_range (by omega)]
  rfl
theorem oneL_at {n many : Int} {i : Nat} {p : Int × Int} (h : (oneL n many)[i]? = some p) : p = Lad.one n (rt n) (mOf n) (i + 1) ∧ (i : Int) < many := by
  have hl := (List.getElem?_eq_some_iff.mp h).1
  rw [oneL_len] at hl
  rw [oneL_get (by omega)] at h
  exact ⟨(Option.some.inj h).symm, by omega⟩
theorem mOf_3000 {n : Int} (h : Nsq n) (hn : n ≤ 3000) : mOf n ≤ 5995 := by
  have a := (mOf_spec h).top
  have b : rt n ≤ 54 := rt_le (by have := h.two; omega) (by decide) (by omega)
  have c := (rt_spec (show 0 ≤ n by have := h.two; omega)).1
  have d : (rt n).toNat + 1 ≤ 55 := by omega
  have e : 2 * (rt n).toNat + 1 ≤ 109 := by omega
  have := Nat.mul_le_mul d e
  omega
theorem one_sz {n : Int} (h : Nsq n) (hn : n ≤ 3000) {k : Nat} (hk : k ≤ 21) : (Lad.one n (rt n) (mOf n) k).1.natAbs < 2 ^ ZB ∧ (Lad.one n (rt n) (mOf n) k).2.natAbs < 2 ^ ZB := by
  have a := mOf_3000 h hn
  have b := lm_le (m := mOf n)
  have c : k * Lad.lm (mOf n) ≤ 21 * 11990 := Nat.mul_le_mul hk (by omega)
  exact cv_ZB h (by omega) (by omega)
def sp_ones (K : PySem.W.Frag) : Sp := fun vs H Q _ => ∃ n many : Int, vs = [.int n, .int many] ∧ Nsq n ∧ n ≤ 3000 ∧ 0 ≤ many ∧ many ≤ 20 ∧ ∀ (p : Addr) (H2 : Hp) (xs : List V), H p = none → Ex H H2 → H2 p = some (.lst xs) → Prs K H2 xs (oneL n many) → Q (.ref p) H2

/-! PROGP worth and times -/
theorem okE_worth (T : Txt K mg) : FnOk P w K mg base CX0 5 T.a_worth T.d_worth ["number", "pair"] (sp_worth K) := by
  have G_check_number := okE_check_number (P := P) (w := w) (base := base) T
  have G_check_root := okE_check_root (P := P) (w := w) (base := base) T
  have G_check_pair := okE_check_pair (P := P) (w := w) (base := base) T
  refine T.F_worth.ok sc_worth (fun vs H Q E h => ?_) (fun cdv A outer s H vs Q E hr h => ?_)
  · obtain ⟨n, x, y, p, b, rfl, _⟩ := h; rfl
  · obtain ⟨n, x, y, p, b, rfl, hn, hle, hp, hb, hx, hy, q⟩ := h
    have n2 := hn.two
    have bn : n.natAbs < 2 ^ 17 := by show n.natAbs < 131072; omega
    refine ⟨_, 
      (pss_cons (ps_expr (pe_call G_check_number (hr.mono (by decide)) (by rfl) T.g_check_number T.F_check_number.kp T.b_check_number .nil pass0 (pa_cons (pv 0) pa_nil))) 
      (pss_cons (ps_expr (pe_call G_check_root hr (by rfl) T.g_check_root T.F_check_root.kp T.b_check_root .nil pass0 (pa_cons (pv 0) pa_nil))) 
      (pss_cons (ps_expr (pe_call G_check_pair (hr.mono (by decide)) (by rfl) T.g_check_pair T.F_check_pair.kp T.b_check_pair .nil pass0 (pa_cons (pv 1) pa_nil))) 
      (pss_cons (ps_asg (pv 1) (pg_tup rfl (pgs_cons (pg_name (i := 2) sc_worth.nd rfl (.inl rfl)) (pgs_cons (pg_name (i := 3) sc_worth.nd rfl (.inl rfl)) pgs_nil)))) 
      (pss_one (ps_ret (pe_op op_sub (pe_op op_mulA (pv 2) (pv 2)) (pe_op op_mulA (pe_op op_mulA (pv 0) (pv 3)) (pv 3))))))))), ?_⟩
    refine q_drop (ev_call (ea_cons (ev_var rfl) ea_nil) (spv_check_number n2 hle)) fun H1 e1 => ?_
    refine q_drop (ev_call (ea_cons (ev_var rfl) ea_nil) (spv_check_root hn hle)) fun H2 e2 => ?_
    refine q_drop (ev_call (ea_cons (ev_var rfl) ea_nil) (spv_check_pair (e2 _ _ (e1 _ _ hp)))) fun H3 e3 => ?_
    refine q_asg2 (ev_var rfl) (st_of (e3 _ _ (e2 _ _ (e1 _ _ hp)))) fun H4 e4 => ?_
    rw [← Int.mul_assoc n y y] at q
    refine s_ret (ev_sub (ev_mul (ev_var rfl) (ev_var rfl) (mulX hx hx (by omega))) (ev_mul (ev_mul (ev_var rfl) (ev_var rfl) (mulL (by omega) (by omega))) (ev_var rfl) (mulX (pw_mul bn hy) hy (by omega)))) fun H5 e5 => q.go ((((e1.trans e2).trans e3).trans e4).trans e5)
theorem okE_times (T : Txt K mg) : FnOk P w K mg base CX0 5 T.a_times T.d_times ["number", "one", "other"] (sp_times K) := by
  have G_check_number := okE_check_number (P := P) (w := w) (base := base) T
  have G_check_root := okE_check_root (P := P) (w := w) (base := base) T
  have G_check_pair := okE_check_pair (P := P) (w := w) (base := base) T
  refine T.F_times.ok sc_times (fun vs H Q E h => ?_) (fun cdv A outer s H vs Q E hr h => ?_)
  · obtain ⟨n, x, y, u, v, p, p2, b, rfl, _⟩ := h; rfl
  · obtain ⟨n, x, y, u, v, p, p2, b, rfl, hn, hle, hp, hp2, hb, ⟨hx, hy, hu, hv⟩, q⟩ := h
    have n2 := hn.two
    have bn : n.natAbs < 2 ^ 17 := by show n.natAbs < 131072; omega
    refine ⟨_, 
      (pss_cons (ps_expr (pe_call G_check_number (hr.mono (by decide)) (by rfl) T.g_check_number T.F_check_number.kp T.b_check_number .nil pass0 (pa_cons (pv 0) pa_nil))) 
      (pss_cons (ps_expr (pe_call G_check_root hr (by rfl) T.g_check_root T.F_check_root.kp T.b_check_root .nil pass0 (pa_cons (pv 0) pa_nil))) 
      (pss_cons (ps_expr (pe_call G_check_pair (hr.mono (by decide)) (by rfl) T.g_check_pair T.F_check_pair.kp T.b_check_pair .nil pass0 (pa_cons (pv 1) pa_nil))) 
      (pss_cons (ps_expr (pe_call G_check_pair (hr.mono (by decide)) (by rfl) T.g_check_pair T.F_check_pair.kp T.b_check_pair .nil pass0 (pa_cons (pv 2) pa_nil))) 
      (pss_cons (ps_asg (pv 1) (pg_tup rfl (pgs_cons (pg_name (i := 3) sc_times.nd rfl (.inl rfl)) (pgs_cons (pg_name (i := 4) sc_times.nd rfl (.inl rfl)) pgs_nil)))) 
      (pss_cons (ps_asg (pv 2) (pg_tup rfl (pgs_cons (pg_name (i := 5) sc_times.nd rfl (.inl rfl)) (pgs_cons (pg_name (i := 6) sc_times.nd rfl (.inl rfl)) pgs_nil)))) 
      (pss_one (ps_ret (pe_tup (pa_cons (pe_op op_add (pe_op op_mulA (pv 3) (pv 5)) (pe_op op_mulA (pe_op op_mulA (pv 0) (pv 4)) (pv 6))) (pa_cons (pe_op op_add (pe_op op_mulA (pv 3) (pv 6)) (pe_op op_mulA (pv 4) (pv 5))) pa_nil))))))))))), ?_⟩
    refine q_drop (ev_call (ea_cons (ev_var rfl) ea_nil) (spv_check_number n2 hle)) fun H1 e1 => ?_
    refine q_drop (ev_call (ea_cons (ev_var rfl) ea_nil) (spv_check_root hn hle)) fun H2 e2 => ?_
    have e12 := e1.trans e2
    refine q_drop (ev_call (ea_cons (ev_var rfl) ea_nil) (spv_check_pair (e12 _ _ hp))) fun H3 e3 => ?_
    refine q_drop (ev_call (ea_cons (ev_var rfl) ea_nil) (spv_check_pair (e3 _ _ (e12 _ _ hp2)))) fun H4 e4 => ?_
    have e14 := (e12.trans e3).trans e4
    refine q_asg2 (ev_var rfl) (st_of (e14 _ _ hp)) fun H5 e5 => ?_
    refine q_asg2 (ev_var rfl) (st_of (e5 _ _ (e14 _ _ hp2))) fun H6 e6 => ?_
    have e16 := (e14.trans e5).trans e6
    rw [← Int.mul_assoc n y v] at q
    refine s_retU (xs := [.int (x * u + n * y * v), .int (x * v + y * u)]) (eu_tup (ea_cons (ev_add (ev_mul (ev_var rfl) (ev_var rfl) (mulX hx hu (by omega))) (ev_mul (ev_mul (ev_var rfl) (ev_var rfl) (mulL (by omega) (by omega))) (ev_var rfl) (mulX (pw_mul bn hy) hv (by omega)))) (ea_cons (ev_add (ev_mul (ev_var rfl) (ev_var rfl) (mulX hx hv (by omega))) (ev_mul (ev_var rfl) (ev_var rfl) (mulX hy hu (by omega)))) ea_nil)) (by show (2 : Nat) ≤ 100000; decide)) fun p3 H7 np3 e7 h7 => q p3 H7 (fresh_back e16 np3) (e16.trans e7) h7

/-! PROGL the round, the fractions of quotients, ladder, fractions -/
def sp_quotient_round (K : PySem.W.Frag) : Sp := fun vs H Q _ => ∃ n : Int, vs = [.int n, .int (rt n)] ∧ Nsq n ∧ n ≤ 100000 ∧ RetL ((rL n).map V.int) H Q
theorem spl_quotient_round {n : Int} {H : Hp} (hn : Nsq n) (hle : n ≤ 100000) : SpL (sp_quotient_round K) [.int n, .int (rt n)] H ((rL n).map V.int) := fun _ _ _ q _ => ⟨n, rfl, hn, hle, fun p H2 a b c => q p H2 a b c⟩
theorem okE_quotient_round (T : Txt K mg) : FnOk P w K mg base CX0 1 T.a_quotient_round T.d_quotient_round ["number", "whole"] (sp_quotient_round K) := by
  refine T.F_quotient_round.ok sc_quotient_round (fun vs H Q E h => ?_) (fun cdv A outer s H vs Q E hr h => ?_)
  · obtain ⟨n, rfl, _⟩ := h; rfl
  · obtain ⟨n, rfl, hn, hle, q⟩ := h
    refine ⟨_, 
      (pss_cons (ps_set (i := 2) sc_quotient_round.nd rfl (.inl rfl) (pv 1)) 
      (pss_cons (ps_set (i := 3) sc_quotient_round.nd rfl (.inl rfl) (pe_op op_sub (pv 0) (pe_op op_mulA (pv 1) (pv 1)))) 
      (pss_cons (ps_set (i := 4) sc_quotient_round.nd rfl (.inl rfl) (pe_lst (pa_cons (pe_op op_fdivA (pe_op op_add (pv 1) (pv 2)) (pv 3)) pa_nil))) 
      (pss_cons (ps_while PassesOwn.never (pt_cmpR op_ne (pv 3) pe_int (nomark _)) (
        (pss_cons (ps_set (i := 2) sc_quotient_round.nd rfl (.inl rfl) (pe_op op_sub (pe_op op_mulA (pe_ix (kix_list (K := K) rfl) (pv 4) (pe_un un_neg pe_int) (fun _ _ => rfl)) (pv 3)) (pv 2))) 
        (pss_cons (ps_set (i := 3) sc_quotient_round.nd rfl (.inl rfl) (pe_op op_fdivA (pe_op op_sub (pv 0) (pe_op op_mulA (pv 2) (pv 2))) (pv 3))) 
        (pss_one (ps_expr (pe_bm PySem.F.plainAttrs_list PySem.F.slot_list_append PySem.F.type_list_append mt_append (pv 4) (pa_cons (pe_op op_fdivA (pe_op op_add (pv 1) (pv 2)) (pv 3)) pa_nil)))))))) 
      (pss_one (ps_ret (pv 4))))))), ?_⟩
    have n2 := hn.two
    have r0 := hn.wh.pos
    have r1 := rt_316 (by omega) hle
    have R := mOf_spec hn
    have mp := R.pos
    have ml := mOf_le hn hle
    have e1s : Lad.st n (rt n) 1 = (rt n, n - rt n * rt n) := Lad.st_one _ _
    have hrr := hn.wh.lo
    have hov : n - rt n * rt n ≤ 100000 := by have := Int.mul_nonneg (show 0 ≤ rt n by omega) (show 0 ≤ rt n by omega); omega
    refine q_asg (v := .int (rt n)) (ev_var rfl) fun H1 e1 => ?_
    refine q_asg (v := .int (n - rt n * rt n)) (by walk_at "ev") fun H2 e2 => ?_
    refine q_asgL (xs := [.int (Lad.qt n (rt n) 1)]) (el_lst (ea_cons (ev_is (v := .int ((rt n + rt n) / (n - rt n * rt n))) (by walk_at "ev") (by unfold Lad.qt Lad.quo; rw [e1s])) ea_nil) (by show (1 : Nat) ≤ 100000; decide)) fun pl H3 nl e3 hl => ?_
    have nH : H pl = none := fresh_back (e1.trans e2) nl
    have s1 : (Lad.st n (rt n) 1).1 = rt n := by rw [e1s]
    have s2 : (Lad.st n (rt n) 1).2 = n - rt n * rt n := by rw [e1s]
    have l1 : (Lad.rl n (rt n) 1).map V.int = [.int (Lad.qt n (rt n) 1)] := by
      rw [Lad.rl_succ]; rfl
    refine q_while (fun k σ' H' => ∃ i : Nat, k = mOf n - i ∧ 1 ≤ i ∧ i ≤ mOf n ∧ σ' = [some (.int n), some (.int (rt n)), some (.int (Lad.st n (rt n) i).1), some (.int (Lad.st n (rt n) i).2), some (.ref pl)] ∧
      H' pl = some (.lst ((Lad.rl n (rt n) i).map V.int)) ∧ Ex H H') (mOf n - 1) ⟨1, rfl, by omega, by omega, by rw [s1, s2]; rfl, by rw [l1]; exact hl, (e1.trans e2).trans e3⟩ (fun k σ' H' hW => ?_)
    obtain ⟨i, rfl, hi1, hi, rfl, hpl, ex⟩ := hW
    obtain ⟨b1, b2, b3, b4, b5, b6, b7⟩ := st_bd hn hle i
    refine ⟨!decide ((Lad.st n (rt n) i).2 = 1), et_test (ev_neI (ev_var rfl) ev_c), fun hb H5 e5 => ?_, fun hb H5 e5 => ?_⟩
    · have hb : (Lad.st n (rt n) i).2 ≠ 1 := by simpa only [Bool.not_eq_true', decide_eq_false_iff_not] using hb
      have him : i < mOf n := by
        by_cases z : i = mOf n
        · subst z
          exact absurd (congrArg Prod.snd (R.end hn.wh)) hb
        · omega
      refine ⟨fun σ2 H6 => σ2 = [some (.int n), some (.int (rt n)), some (.int (Lad.st n (rt n) (i + 1)).1), some (.int (Lad.st n (rt n) (i + 1)).2), some (.ref pl)] ∧ H6 pl = some (.lst ((Lad.rl n (rt n) (i + 1)).map V.int)) ∧ Ex H H6, fun σ2 H6 hN => ?_, ?_⟩
      · obtain ⟨rfl, c1, c2⟩ := hN
        exact ⟨mOf n - (i + 1), by omega, i + 1, rfl, by omega, by omega, rfl, c1, c2⟩
      · have hl5 := e5 _ _ hpl
        have lst1 : atI ((Lad.rl n (rt n) i).map V.int) (-1) = some (.int (Lad.qt n (rt n) i)) := at_last (by
          rw [List.length_map, Lad.rl_len, List.getElem?_map, Lad.rl_at n (rt n) (show i - 1 < i by omega), show i - 1 + 1 = i by omega]; rfl) (by rw [List.length_map, Lad.rl_len]; omega)
        refine q_asg (v := .int (Lad.st n (rt n) (i + 1)).1) (by
          rw [Lad.st_p]
          exact ev_sub (ev_mul (ev_op (ev_var rfl) (ev_neg ev_c) (rv_ixL (sq_of hl5) lst1)) (ev_var rfl) (mulL (by omega) (by omega))) (ev_var rfl)) fun H6 e6 => ?_
        obtain ⟨d1, d2, d3, d4, d5, d6, d7⟩ := st_bd hn hle (i + 1)
        refine q_asg (v := .int (Lad.st n (rt n) (i + 1)).2) ?_ fun H7 e7 => ?_
        · show Ev _ _ _ (.int ((n - (Lad.st n (rt n) (i + 1)).1 * (Lad.st n (rt n) (i + 1)).1) / (Lad.st n (rt n) i).2))
          exact ev_div (ev_sub (ev_var rfl) (ev_mul (ev_var rfl) (ev_var rfl) (mulL (by omega) (by omega)))) (ev_var rfl) ⟨by omega, Or.inl (by omega)⟩
        have hl7 := e7 _ _ (e6 _ _ hl5)
        refine s_appB hl7 (ev_var rfl) (v := .int (Lad.qt n (rt n) (i + 1))) ?_ (by rw [List.length_map, Lad.rl_len]; omega) fun H8 e8 => ?_
        · show Ev _ _ _ (.int ((rt n + (Lad.st n (rt n) (i + 1)).1) / (Lad.st n (rt n) (i + 1)).2))
          exact ev_div (ev_add (ev_var rfl) (ev_var rfl)) (ev_var rfl) ⟨by omega, Or.inl (by omega)⟩
        refine ⟨rfl, ?_, Ex.mut ((((ex.trans e5).trans e6).trans e7).trans e8) nH⟩
        rw [upd_same, Lad.rl_succ, List.map_append]; rfl
    · have hb : (Lad.st n (rt n) i).2 = 1 := by simpa only [Bool.not_eq_false', decide_eq_true_eq] using hb
      have him : i = mOf n := by
        have := (R.one_iff hn.wh i).mp hb
        by_cases z : i = mOf n
        · exact z
        · rw [Nat.mod_eq_of_lt (by omega)] at this
          omega
      subst him
      exact s_ret (ev_var rfl) fun H6 e6 => q pl H6 nH ((ex.trans e5).trans e6) (e6 _ _ (e5 _ _ hpl))
def sp_climb (K : PySem.W.Frag) : Sp := fun vs H Q _ => ∃ (n : Int) (k : Nat) (p : Addr), vs = [.ref p] ∧ Nsq n ∧ n ≤ 100000 ∧ k ≤ 409000 ∧ H p = some (.lst ((Lad.qrow n (rt n) k).map V.int)) ∧ ∀ (l : Addr) (H2 : Hp) (xs : List V), H l = none → Ex H H2 → H2 l = some (.lst xs) → Prs K H2 xs (Lad.crow n (rt n) k) → Fr H xs → Q (.ref l) H2
theorem okE_climb (T : Txt K mg) : FnOk P w K mg base CX0 1 T.a_climb T.d_climb ["quotients"] (sp_climb K) := by
  refine T.F_climb.ok sc_climb (fun vs H Q E h => ?_) (fun cdv A outer s H vs Q E hr h => ?_)
  · obtain ⟨n, k, p, rfl, _⟩ := h; rfl
  · obtain ⟨n, k, p, rfl, hn, hle, hk, hp, q⟩ := h
    refine ⟨_, 
      (pss_cons (ps_set (i := 1) sc_climb.nd rfl (.inl rfl) (pe_lst pa_nil)) 
      (pss_cons (ps_asg (pe_tup (pa_cons pe_int (pa_cons pe_int pa_nil))) (pg_tup rfl (pgs_cons (pg_name (i := 2) sc_climb.nd rfl (.inl rfl)) (pgs_cons (pg_name (i := 3) sc_climb.nd rfl (.inl rfl)) pgs_nil)))) 
      (pss_cons (ps_asg (pe_tup (pa_cons pe_int (pa_cons pe_int pa_nil))) (pg_tup rfl (pgs_cons (pg_name (i := 4) sc_climb.nd rfl (.inl rfl)) (pgs_cons (pg_name (i := 5) sc_climb.nd rfl (.inl rfl)) pgs_nil)))) 
      (pss_cons (ps_for PassesOwn.never rfl (pi_list (pv 0)) (pg_name (i := 6) sc_climb.nd rfl (.inl rfl)) (
        (pss_cons (ps_par (i := 2) (j := 4) rfl sc_climb.nd rfl rfl (by decide) rfl rfl (pa_cons (pe_op op_add (pe_op op_mulA (pv 6) (pv 2)) (pv 4)) (pa_cons (pv 2) pa_nil)) (by rfl)) 
        (pss_cons (ps_par (i := 3) (j := 5) rfl sc_climb.nd rfl rfl (by decide) rfl rfl (pa_cons (pe_op op_add (pe_op op_mulA (pv 6) (pv 3)) (pv 5)) (pa_cons (pv 3) pa_nil)) (by rfl)) 
        (pss_one (ps_expr (pe_bm PySem.F.plainAttrs_list PySem.F.slot_list_append PySem.F.type_list_append mt_append (pv 1) (pa_cons (pe_tup (pa_cons (pv 2) (pa_cons (pv 3) pa_nil))) pa_nil)))))))) 
      (pss_one (ps_ret (pv 1))))))), ?_⟩
    refine q_asgL (xs := []) (el_lst ea_nil (by decide)) fun fl H1 nf e1 hf => ?_
    refine q_asgU2 (x := .int 1) (y := .int 0) (eu_tup (ea_cons ev_c (ea_cons ev_c ea_nil)) (by show (2 : Nat) ≤ 100000; decide)) fun H2 e2 => ?_
    refine q_asgU2 (x := .int 0) (y := .int 1) (eu_tup (ea_cons ev_c (ea_cons ev_c ea_nil)) (by show (2 : Nat) ≤ 100000; decide)) fun H3 e3 => ?_
    have e13 := (e1.trans e2).trans e3
    refine q_forLn (xs := (Lad.qrow n (rt n) k).map V.int) (ev_var rfl) (sq_of (e13 _ _ hp)) (fun i σ' H' => ∃ (xs : List V) (s6 : Option V), σ' = [some (.ref p), some (.ref fl), some (.int (Lad.cv n (rt n) (i + 1)).1), some (.int (Lad.cv n (rt n) (i + 1)).2), some (.int (Lad.cv n (rt n) i).1), some (.int (Lad.cv n (rt n) i).2), s6] ∧
        H' fl = some (.lst xs) ∧ Prs K H' xs (Lad.crow n (rt n) i) ∧ Fr H xs ∧ Ex H H') (fun H4 e4 => ⟨[], none, rfl, e4 _ _ (e3 _ _ (e2 _ _ hf)), trivial, Fr.nil, e13.trans e4⟩) (fun i σ' H' _ h => by obtain ⟨_, _, _, _, _, _, ex⟩ := h; exact sq_of (ex _ _ hp)) (fun i v σ' H' hv h => ?_) (fun σ' H' h => ?_)
    · obtain ⟨xs, s6, rfl, hfl, hpr, hfr, ex⟩ := h
      have hik : i < k := by
        have := (List.getElem?_eq_some_iff.mp hv).1
        rw [List.length_map, Lad.qrow_len] at this
        exact this
      rw [List.getElem?_map, Lad.qrow_at hik] at hv
      cases hv
      obtain ⟨_, _, _, _, b5, b6, _⟩ := st_bd hn hle i
      have hlen : xs.length = i := by rw [hpr.len, Lad.crow_len]
      refine q_par (x := .int (Lad.cv n (rt n) (i + 2)).1) (y := .int (Lad.cv n (rt n) (i + 1)).1) (ea_cons (ev_add (ev_mul (ev_var rfl) (ev_var rfl) (mulL (by omega) (by omega))) (ev_var rfl)) (ea_cons (ev_var rfl) ea_nil)) fun H5 e5 => ?_
      refine q_par (x := .int (Lad.cv n (rt n) (i + 2)).2) (y := .int (Lad.cv n (rt n) (i + 1)).2) (ea_cons (ev_add (ev_mul (ev_var rfl) (ev_var rfl) (mulL (by omega) (by omega))) (ev_var rfl)) (ea_cons (ev_var rfl) ea_nil)) fun H6 e6 => ?_
      refine s_appUB (ys := [.int (Lad.cv n (rt n) (i + 2)).1, .int (Lad.cv n (rt n) (i + 2)).2]) (e6 _ _ (e5 _ _ hfl)) (ev_var rfl) (eu_tup (ea_cons (ev_var rfl) (ea_cons (ev_var rfl) ea_nil)) (by show (2 : Nat) ≤ 100000; decide)) (by omega) fun t H7 nt e7 ht => ?_
      have e57 := (e5.trans e6).trans e7
      have hfl7 := e57 _ _ hfl
      refine ⟨xs ++ [.ref t], _, rfl, upd_same, ?_, hfr.snoc (fresh_back ((ex.trans e5).trans e6) nt), Ex.mut (ex.trans e57) nf⟩
      rw [Lad.crow_succ]
      exact Prs.upd hfl7 (Prs.snoc (x := (Lad.cv n (rt n) (i + 2)).1) (y := (Lad.cv n (rt n) (i + 2)).2) ht (hpr.mono e57))
    · obtain ⟨xs, s6, rfl, hfl, hpr, hfr, ex⟩ := h
      rw [List.length_map, Lad.qrow_len] at hpr
      exact s_ret (ev_var rfl) fun H5 e5 => q fl H5 xs nf (ex.trans e5) (e5 _ _ hfl) (hpr.mono e5) hfr
theorem okE_ladder (T : Txt K mg) : FnOk P w K mg base CX0 5 T.a_ladder T.d_ladder ["number"] (sp_ladder K) := by
  have G_check_number := okE_check_number (P := P) (w := w) (base := base) T
  have G_check_root := okE_check_root (P := P) (w := w) (base := base) T
  have G_whole_root := okE_whole_root (P := P) (w := w) (base := base) T
  have G_quotient_round := okE_quotient_round (P := P) (w := w) (base := base) T
  refine T.F_ladder.ok sc_ladder (fun vs H Q E h => ?_) (fun cdv A outer s H vs Q E hr h => ?_)
  · obtain ⟨n, rfl, _⟩ := h; rfl
  · obtain ⟨n, rfl, hn, hle, q⟩ := h
    have n2 := hn.two
    refine ⟨_, 
      (pss_cons (ps_expr (pe_call G_check_number (hr.mono (by decide)) (by rfl) T.g_check_number T.F_check_number.kp T.b_check_number .nil pass0 (pa_cons (pv 0) pa_nil))) 
      (pss_cons (ps_expr (pe_call G_check_root hr (by rfl) T.g_check_root T.F_check_root.kp T.b_check_root .nil pass0 (pa_cons (pv 0) pa_nil))) 
      (pss_cons (ps_set (i := 1) sc_ladder.nd rfl (.inl rfl) (pe_call G_whole_root (hr.mono (by decide)) (by rfl) T.g_whole_root T.F_whole_root.kp T.b_whole_root .nil pass0 (pa_cons (pv 0) pa_nil))) 
      (pss_one (ps_ret (pe_tup (pa_cons (pv 1) (pa_cons (pe_call G_quotient_round (hr.mono (by decide)) (by rfl) T.g_quotient_round T.F_quotient_round.kp T.b_quotient_round .nil pass0 (pa_cons (pv 0) (pa_cons (pv 1) pa_nil))) pa_nil)))))))), ?_⟩
    refine q_drop (ev_call (ea_cons (ev_var rfl) ea_nil) (spv_check_number n2 hle)) fun H1 e1 => ?_
    refine q_drop (ev_call (ea_cons (ev_var rfl) ea_nil) (spv_check_root hn hle)) fun H2 e2 => ?_
    refine q_asg (v := .int (rt n)) (ev_call (ea_cons (ev_var rfl) ea_nil) (spv_whole_root (by omega) (n250 (by omega)))) fun H3 e3 => ?_
    have e13 := (e1.trans e2).trans e3
    exact s_retVL (ev_var rfl) (el_call (ea_cons (ev_var rfl) (ea_cons (ev_var rfl) ea_nil)) (spl_quotient_round hn hle)) fun p l H4 np nl ne e4 hp hl => q p l H4 (fresh_back e13 np) (fresh_back e13 nl) ne (e13.trans e4) hp hl
/-- climb of a new list -/
theorem s_retClimb {σ : L2.St} {H : Hp} {D : Ends} {te : TE} {n : Int} {k : Nat} (hn : Nsq n) (hle : n ≤ 100000) (hk : k ≤ 409000) (h : EvL te σ H ((Lad.qrow n (rt n) k).map V.int))
    (q : ∀ (l : Addr) (H2 : Hp) (xs : List V), H l = none → Ex H H2 → H2 l = some (.lst xs) → Prs K H2 xs (Lad.crow n (rt n) k) → Fr H xs → D.rt (.ref l) H2) : tRet (tCall (sp_climb K) [] E0 (tCons te tNil)) D σ H :=
  h H (Ex.refl H) _ fun p H1 np e1 hp => ⟨n, k, p, rfl, hn, hle, hk, hp, fun l H2 xs nl e2 hl hx hf => q l H2 xs (fresh_back e1 nl) (e1.trans e2) hl hx (hf.back e1)⟩
theorem row_V {n : Int} (hn : Nsq n) (k : Nat) : [V.int (rt n)] ++ (List.replicate k ((rL n).map V.int)).flatten = (Lad.qrow n (rt n) (k * mOf n + 1)).map V.int := by
  rw [← Lad.row_rounds (mOf_spec hn) k, List.map_cons, List.map_flatten, List.map_replicate]
  rfl
theorem row_V1 {n : Int} (hn : Nsq n) : [V.int (rt n)] ++ (rL n).map V.int = (Lad.qrow n (rt n) (mOf n + 1)).map V.int := by
  rw [← Lad.row_once (mOf_spec hn), List.map_cons]
  rfl
theorem row_last (n : Int) (k : Nat) : cutV ((Lad.qrow n (rt n) (k + 1)).map V.int) none (some (-1)) = (Lad.qrow n (rt n) k).map V.int := by
  rw [cut_last, List.length_map, Lad.qrow_len, ← List.map_take, Lad.qrow_take n (rt n) (show k + 1 - 1 ≤ k + 1 by omega)]
  rfl

/-! PROGF fractions -/
theorem frL_crow (n many : Int) : Lad.crow n (rt n) many.toNat = frL n many := rfl
theorem okE_fractions (T : Txt K mg) : FnOk P w K mg base CX0 6 T.a_fractions T.d_fractions ["number", "many"] (sp_fractions K) := by
  have G_check_number := okE_check_number (P := P) (w := w) (base := base) T
  have G_check_between := okE_check_between (P := P) (w := w) (base := base) T
  have G_check_root := okE_check_root (P := P) (w := w) (base := base) T
  have G_ladder := okE_ladder (P := P) (w := w) (base := base) T
  have G_climb := okE_climb (P := P) (w := w) (base := base) T
  refine fd_ok T.F_fractions sc_fractions (fun vs H Q E h => ?_) (fun cdv A outer s H vs Q E hr h => ?_)
  · obtain ⟨n, many, rfl, _⟩ := h; rfl
  · obtain ⟨n, many, rfl, hn, hle, h0, h1, q⟩ := h
    have n2 := hn.two
    have R := mOf_spec hn
    have mp := R.pos
    have ml := mOf_le hn hle
    refine ⟨_, 
      (pss_cons (ps_expr (pe_call G_check_number (hr.mono (by decide)) (by rfl) T.g_check_number T.F_check_number.kp T.b_check_number .nil pass0 (pa_cons (pv 0) pa_nil))) 
      (pss_cons (ps_expr (pe_call G_check_between (hr.mono (by decide)) (by rfl) T.g_check_between T.F_check_between.kp T.b_check_between .nil pass0 (pa_cons (pv 1) (pa_cons pe_int (pa_cons (pe_glob (v := .int 200) (by rfl) T.g_MOST_FRACTIONS ⟨_, rfl⟩) pa_nil))))) 
      (pss_cons (ps_expr (pe_call G_check_root (hr.mono (by decide)) (by rfl) T.g_check_root T.F_check_root.kp T.b_check_root .nil pass0 (pa_cons (pv 0) pa_nil))) 
      (pss_cons (ps_asg (pe_call G_ladder hr (by rfl) T.g_ladder T.F_ladder.kp T.b_ladder .nil pass0 (pa_cons (pv 0) pa_nil)) (pg_tup rfl (pgs_cons (pg_name (i := 2) sc_fractions.nd rfl (.inl rfl)) (pgs_cons (pg_name (i := 3) sc_fractions.nd rfl (.inl rfl)) pgs_nil)))) 
      (pss_cons (ps_set (i := 4) sc_fractions.nd rfl (.inl rfl) (pe_op op_add (pe_op op_fdivA (pv 1) (pe_callB (id := "len") (klen (K := K) rfl) (by rfl) T.z_len (by decide +kernel) (pa_cons (pv 3) pa_nil))) pe_int)) 
      (pss_cons (ps_set (i := 5) sc_fractions.nd rfl (.inl rfl) (pe_op (kcat (K := K) rfl) (pe_lst (pa_cons (pv 2) pa_nil)) (pe_op op_rep (pv 3) (pv 4)))) 
      (pss_one (ps_ret (pe_call G_climb (hr.mono (by decide)) (by rfl) T.g_climb T.F_climb.kp T.b_climb .nil pass0 (pa_cons (pe_slice (ksl_list (K := K) rfl) (pv 5) po_none (po_some (pv 1))) pa_nil)))))))))), ?_⟩
    refine q_drop (ev_call (ea_cons (ev_var rfl) ea_nil) (spv_check_number n2 hle)) fun H1 e1 => ?_
    refine q_drop (ev_call (ea_cons (ev_var rfl) (ea_cons ev_c (ea_cons ev_c ea_nil))) (spv_check_between h0 h1)) fun H2 e2 => ?_
    refine q_drop (ev_call (ea_cons (ev_var rfl) ea_nil) (spv_check_root hn hle)) fun H3 e3 => ?_
    refine aq_ladder2 (ea_cons (ev_var rfl) ea_nil) hn hle fun l H4 nl e4 hl => ?_
    have lenR : ((rL n).map V.int).length = mOf n := by rw [List.length_map, rL_len]
    refine q_asg (v := .int (many / (mOf n : Int) + 1)) (ev_add (ev_div (ev_var rfl) (ev_is (ev_lenL (ev_var rfl) (sq_of hl)) (by rw [lenR])) ⟨by omega, Or.inl (by omega)⟩) ev_c) fun H5 e5 => ?_
    have d1 : 0 ≤ many / (mOf n : Int) := Int.ediv_nonneg h0 (by omega)
    have d2 : many / (mOf n : Int) * (mOf n : Int) ≤ many := Int.ediv_mul_le many (by omega)
    have d3 : many < (many / (mOf n : Int) + 1) * (mOf n : Int) := Int.lt_ediv_add_one_mul_self many (by omega)
    have d4 : many / (mOf n : Int) * 1 ≤ many / (mOf n : Int) * (mOf n : Int) := Int.mul_le_mul_of_nonneg_left (by omega) d1
    obtain ⟨k, hk⟩ : ∃ k : Nat, many / (mOf n : Int) + 1 = (k : Int) := ⟨(many / (mOf n : Int) + 1).toNat, by omega⟩
    rw [hk] at d3
    have hk200 : k ≤ 201 := by omega
    have d5 : (k : Int) * (mOf n : Int) ≤ many + (mOf n : Int) := by
      rw [← hk, Int.add_mul, Int.one_mul]; omega
    have d3' : many.toNat < k * mOf n := by
      have : ((many.toNat : Nat) : Int) < ((k * mOf n : Nat) : Int) := by rw [Int.natCast_mul]; omega
      omega
    have d5' : k * mOf n ≤ 200861 := by
      have : ((k * mOf n : Nat) : Int) ≤ 200861 := by rw [Int.natCast_mul]; omega
      omega
    have hl5 := e5 _ _ hl
    refine q_asgL (xs := (Lad.qrow n (rt n) (k * mOf n + 1)).map V.int) (by
      rw [← row_V hn k]
      refine el_catNN (el_lst (ea_cons (ev_var rfl) ea_nil) (by show (1 : Nat) ≤ 100000; decide)) (el_repV (ev_var rfl) hl5 (ev_var rfl) hk (by omega) (by rw [lenR, Nat.mul_comm]; omega)) ?_
      have := congrArg List.length (row_V hn k)
      rw [List.length_append, List.length_map, Lad.qrow_len] at this
      omega) fun lr H6 nlr e6 hlr => ?_
    have hm : many = ((many.toNat : Nat) : Int) := by omega
    have e16 := ((((e1.trans e2).trans e3).trans e4).trans e5).trans e6
    refine s_retClimb hn hle (k := many.toNat) (by omega) ?_ fun l2 H7 xs nl2 e7 hl2 hx hf => q l2 H7 xs (fresh_back e16 nl2) (e16.trans e7) hl2 (by rw [← frL_crow]; exact hx)
    have hcut : cutV ((Lad.qrow n (rt n) (k * mOf n + 1)).map V.int) none (some many) = (Lad.qrow n (rt n) many.toNat).map V.int := by
      have := cut_to (xs := (Lad.qrow n (rt n) (k * mOf n + 1)).map V.int) many.toNat
      rw [← hm] at this
      rw [this, ← List.map_take, Lad.qrow_take n (rt n) (by omega)]
    rw [← hcut]
    exact el_slice (ev_var rfl) (sq_of hlr) eo_none (eo_some (ev_var rfl))

/-! PROGS is_odd, whole_turn, least_one, least_less_one -/
def sp_is_odd (K : PySem.W.Frag) : Sp := fun vs H Q _ => ∃ n : Int, vs = [.int n] ∧ RetV (.bl (decide (n % 2 = 1))) H Q
theorem spv_is_odd {n : Int} {H : Hp} : SpV (sp_is_odd K) [.int n] H (.bl (decide (n % 2 = 1))) := fun _ _ _ q _ => ⟨n, rfl, q⟩
theorem okE_is_odd (T : Txt K mg) : FnOk P w K mg base CX0 1 T.a_is_odd T.d_is_odd ["number"] (sp_is_odd K) := by
  refine T.F_is_odd.ok sc_is_odd (fun vs H Q E h => ?_) (fun cdv A outer s H vs Q E hr h => ?_)
  · obtain ⟨n, rfl, _⟩ := h; rfl
  · obtain ⟨n, rfl, q⟩ := h
    refine ⟨_, 
      (pss_one (ps_ret (pe_cmpR op_eq (pe_op op_andK (pv 0) pe_int) pe_int (nomark _)))), ?_⟩
    exact s_ret (ev_eqI (ev_and1 (ev_var rfl)) ev_c) fun H1 e1 => q.go e1
theorem lm_as (m : Nat) : Lad.lm m = (if m % 2 = 1 then 2 else 1) * m := by
  unfold Lad.lm
  by_cases z : m % 2 = 0
  · rw [if_pos z, if_neg (by omega), Nat.one_mul]
  · rw [if_neg z, if_pos (by omega)]
def sp_whole_turn (K : PySem.W.Frag) : Sp := fun vs H Q _ => ∃ n : Int, vs = [.int n] ∧ Nsq n ∧ n ≤ 100000 ∧ ∀ (l : Addr) (H2 : Hp) (xs : List V), H l = none → Ex H H2 → H2 l = some (.lst xs) → Prs K H2 xs (Lad.crow n (rt n) (Lad.lm (mOf n))) → Fr H xs → Q (.ref l) H2
theorem okE_whole_turn (T : Txt K mg) : FnOk P w K mg base CX0 6 T.a_whole_turn T.d_whole_turn ["number"] (sp_whole_turn K) := by
  have G_ladder := okE_ladder (P := P) (w := w) (base := base) T
  have G_climb := okE_climb (P := P) (w := w) (base := base) T
  have G_is_odd := okE_is_odd (P := P) (w := w) (base := base) T
  refine T.F_whole_turn.ok sc_whole_turn (fun vs H Q E h => ?_) (fun cdv A outer s H vs Q E hr h => ?_)
  · obtain ⟨n, rfl, _⟩ := h; rfl
  · obtain ⟨n, rfl, hn, hle, q⟩ := h
    have n2 := hn.two
    have R := mOf_spec hn
    have mp := R.pos
    have ml := mOf_le hn hle
    refine ⟨_, 
      (pss_cons (ps_asg (pe_call G_ladder hr (by rfl) T.g_ladder T.F_ladder.kp T.b_ladder .nil pass0 (pa_cons (pv 0) pa_nil)) (pg_tup rfl (pgs_cons (pg_name (i := 1) sc_whole_turn.nd rfl (.inl rfl)) (pgs_cons (pg_name (i := 2) sc_whole_turn.nd rfl (.inl rfl)) pgs_nil)))) 
      (pss_cons (ps_set (i := 3) sc_whole_turn.nd rfl (.inl rfl) (pe_ifExp (pt_val (pe_call G_is_odd (hr.mono (by decide)) (by rfl) T.g_is_odd T.F_is_odd.kp T.b_is_odd .nil pass0 (pa_cons (pe_callB (id := "len") (klen (K := K) rfl) (by rfl) T.z_len (by decide +kernel) (pa_cons (pv 2) pa_nil)) pa_nil))) pe_int pe_int)) 
      (pss_cons (ps_set (i := 4) sc_whole_turn.nd rfl (.inl rfl) (pe_op (kcat (K := K) rfl) (pe_lst (pa_cons (pv 1) pa_nil)) (pe_op op_rep (pv 2) (pv 3)))) 
      (pss_one (ps_ret (pe_call G_climb (hr.mono (by decide)) (by rfl) T.g_climb T.F_climb.kp T.b_climb .nil pass0 (pa_cons (pe_slice (ksl_list (K := K) rfl) (pv 4) po_none (po_some (pe_un un_neg pe_int))) pa_nil))))))), ?_⟩
    refine aq_ladder2 (ea_cons (ev_var rfl) ea_nil) hn hle fun l H1 nl e1 hl => ?_
    have lenR : ((rL n).map V.int).length = mOf n := by rw [List.length_map, rL_len]
    obtain ⟨k, hk⟩ : ∃ k : Nat, k = if mOf n % 2 = 1 then 2 else 1 := ⟨_, rfl⟩
    have hk2 : k ≤ 2 := by rw [hk]; split <;> omega
    have hkm : k * mOf n ≤ 401322 := by
      have := Nat.mul_le_mul hk2 ml
      omega
    have hlm : Lad.lm (mOf n) = k * mOf n := by rw [lm_as, hk]
    refine q_asg (v := .int (k : Int)) (ev_if (b := decide ((mOf n : Int) % 2 = 1)) (et_test (ev_call (ea_cons (ev_is (ev_lenL (ev_var rfl) (sq_of hl)) (by rw [lenR])) ea_nil) spv_is_odd)) (fun z => by
      rw [hk, if_pos (by have := of_decide_eq_true z; omega)]
      exact ev_c) (fun z => by
      rw [hk, if_neg (by have := of_decide_eq_false z; omega)]
      exact ev_c)) fun H2 e2 => ?_
    have hl2 := e2 _ _ hl
    refine q_asgL (xs := (Lad.qrow n (rt n) (k * mOf n + 1)).map V.int) (by
      rw [← row_V hn k]
      refine el_catNN (el_lst (ea_cons (ev_var rfl) ea_nil) (by show (1 : Nat) ≤ 100000; decide)) (el_repV (ev_var rfl) hl2 (ev_var rfl) rfl (by omega) (by rw [lenR, Nat.mul_comm]; omega)) ?_
      have := congrArg List.length (row_V hn k)
      rw [List.length_append, List.length_map, Lad.qrow_len] at this
      omega) fun lr H3 nlr e3 hlr => ?_
    have e13 := (e1.trans e2).trans e3
    refine s_retClimb hn hle (k := k * mOf n) (by omega) ?_ fun l2 H4 xs nl2 e4 hl2 hx hf => q l2 H4 xs (fresh_back e13 nl2) (e13.trans e4) hl2 (by rw [hlm]; exact hx) (hf.back e13)
    rw [← row_last]
    exact el_slice (ev_var rfl) (sq_of hlr) eo_none (eo_some (ev_neg ev_c))
theorem okE_least_one (T : Txt K mg) : FnOk P w K mg base CX0 7 T.a_least_one T.d_least_one ["number"] (sp_least_one K) := by
  have G_whole_turn := okE_whole_turn (P := P) (w := w) (base := base) T
  refine T.F_least_one.ok sc_least_one (fun vs H Q E h => ?_) (fun cdv A outer s H vs Q E hr h => ?_)
  · obtain ⟨n, rfl, _⟩ := h; rfl
  · obtain ⟨n, rfl, hn, hle, q⟩ := h
    refine ⟨_, 
      (pss_one (ps_ret (pe_ix (kix_list (K := K) rfl) (pe_call G_whole_turn hr (by rfl) T.g_whole_turn T.F_whole_turn.kp T.b_whole_turn .nil pass0 (pa_cons (pv 0) pa_nil)) (pe_un un_neg pe_int) (fun _ _ => rfl)))), ?_⟩
    have lp := Lad.lm_pos (mOf_spec hn).pos
    refine ev_var (v := .int n) rfl H (Ex.refl H) _ fun H1 e1 => ⟨n, rfl, hn, hle, fun l H2 xs nl e2 hl hx hf => ?_⟩
    have hlen : xs.length = Lad.lm (mOf n) := by rw [hx.len, Lad.crow_len]
    have hi : xs.length - 1 < xs.length := by omega
    obtain ⟨pr, a, hpr, ea, ha⟩ := hx.at (List.getElem?_eq_getElem hi)
    rw [Lad.crow_at (by omega)] at hpr
    have e := Option.some.inj hpr
    subst e
    have hcv : Lad.cv n (rt n) (xs.length - 1 + 2) = lsp n := by
      show _ = Lad.cv n (rt n) (1 * Lad.lm (mOf n) + 1)
      rw [hlen, show Lad.lm (mOf n) - 1 + 2 = 1 * Lad.lm (mOf n) + 1 by omega]
    rw [hcv] at ha
    have hv : xs[xs.length - 1]? = some (.ref a) := by rw [List.getElem?_eq_getElem hi, ea]
    refine ev_neg (i := 1) ev_c H2 (Ex.refl H2) _ fun H3 e3 => rv_ixL (sq_of hl) (at_last hv (by omega)) H3 e3 _ fun H4 e4 => ?_
    exact q a H4 (fresh_back e1 (hf a (List.mem_of_getElem? hv))) (((e1.trans e2).trans e3).trans e4) (e4 _ _ (e3 _ _ ha))
theorem okE_least_less_one (T : Txt K mg) : FnOk P w K mg base CX0 6 T.a_least_less_one T.d_least_less_one ["number"] (sp_least_less_one K) := by
  have G_ladder := okE_ladder (P := P) (w := w) (base := base) T
  have G_climb := okE_climb (P := P) (w := w) (base := base) T
  have G_is_odd := okE_is_odd (P := P) (w := w) (base := base) T
  refine T.F_least_less_one.ok sc_least_less_one (fun vs H Q E h => ?_) (fun cdv A outer s H vs Q E hr h => ?_)
  · obtain ⟨n, rfl, _⟩ := h; rfl
  · obtain ⟨n, rfl, hn, hle, q1, q2⟩ := h
    refine ⟨_, 
      (pss_cons (ps_asg (pe_call G_ladder hr (by rfl) T.g_ladder T.F_ladder.kp T.b_ladder .nil pass0 (pa_cons (pv 0) pa_nil)) (pg_tup rfl (pgs_cons (pg_name (i := 1) sc_least_less_one.nd rfl (.inl rfl)) (pgs_cons (pg_name (i := 2) sc_least_less_one.nd rfl (.inl rfl)) pgs_nil)))) 
      (pss_cons (ps_if (pt_not (pt_val (pe_call G_is_odd (hr.mono (by decide)) (by rfl) T.g_is_odd T.F_is_odd.kp T.b_is_odd .nil pass0 (pa_cons (pe_callB (id := "len") (klen (K := K) rfl) (by rfl) T.z_len (by decide +kernel) (pa_cons (pv 2) pa_nil)) pa_nil)))) (
        (pss_one (ps_ret pe_non))) (pss_nil)) 
      (pss_cons (ps_set (i := 3) sc_least_less_one.nd rfl (.inl rfl) (pe_op (kcat (K := K) rfl) (pe_lst (pa_cons (pv 1) pa_nil)) (pv 2))) 
      (pss_one (ps_ret (pe_ix (kix_list (K := K) rfl) (pe_call G_climb (hr.mono (by decide)) (by rfl) T.g_climb T.F_climb.kp T.b_climb .nil pass0 (pa_cons (pe_slice (ksl_list (K := K) rfl) (pv 3) po_none (po_some (pe_un un_neg pe_int))) pa_nil)) (pe_un un_neg pe_int) (fun _ _ => rfl))))))), ?_⟩
    have mp := (mOf_spec hn).pos
    have ml := mOf_le hn hle
    refine aq_ladder2 (ea_cons (ev_var rfl) ea_nil) hn hle fun l H1 nl e1 hl => ?_
    have lenR : ((rL n).map V.int).length = mOf n := by rw [List.length_map, rL_len]
    refine q_when (b := !decide ((mOf n : Int) % 2 = 1)) (et_not (et_test (ev_call (ea_cons (ev_is (ev_lenL (ev_var rfl) (sq_of hl)) (by rw [lenR])) ea_nil) spv_is_odd))) (fun z H2 e2 => ?_) (fun z H2 e2 => ?_)
    · have z : ¬ (mOf n : Int) % 2 = 1 := by simpa only [Bool.not_eq_true', decide_eq_false_iff_not] using z
      exact s_ret ev_c fun H3 e3 => q2 (by omega) H3 ((e1.trans e2).trans e3)
    · have z : (mOf n : Int) % 2 = 1 := by simpa only [Bool.not_eq_false', decide_eq_true_eq] using z
      have q := q1 (by omega)
      refine q_asgL (xs := (Lad.qrow n (rt n) (mOf n + 1)).map V.int) (by
        rw [← row_V1 hn]
        refine el_catNV (el_lst (ea_cons (ev_var rfl) ea_nil) (by show (1 : Nat) ≤ 100000; decide)) (ev_var rfl) (sq_of (e2 _ _ hl)) ?_
        rw [lenR]
        show 1 + mOf n ≤ 1000000
        omega) fun lr H3 nlr e3 hlr => ?_
      have e13 := (e1.trans e2).trans e3
      have hs : EvL (tSl (rSlL K) (tVar 3) tNoPart (tPart (tUn (rU fun i => .int (-i)) (tC (.int 1))))) [some (.int n), some (.int (rt n)), some (.ref l), some (.ref lr)] H3 ((Lad.qrow n (rt n) (mOf n)).map V.int) := by
        rw [← row_last]
        exact el_slice (ev_var rfl) (sq_of hlr) eo_none (eo_some (ev_neg ev_c))
      refine hs H3 (Ex.refl H3) _ fun p H4 np e4 hp => ⟨n, mOf n, p, rfl, hn, hle, by omega, hp, fun l2 H5 xs nl2 e5 hl2 hx hf => ?_⟩
      have hlen : xs.length = mOf n := by rw [hx.len, Lad.crow_len]
      have hi : xs.length - 1 < xs.length := by omega
      obtain ⟨pr, a, hpr, ea, ha⟩ := hx.at (List.getElem?_eq_getElem hi)
      rw [Lad.crow_at (by omega)] at hpr
      have e := Option.some.inj hpr
      subst e
      have hcv : Lad.cv n (rt n) (xs.length - 1 + 2) = lsm n := by
        show _ = Lad.cv n (rt n) (mOf n + 1)
        rw [hlen, show mOf n - 1 + 2 = mOf n + 1 by omega]
      rw [hcv] at ha
      have hv : xs[xs.length - 1]? = some (.ref a) := by rw [List.getElem?_eq_getElem hi, ea]
      refine ev_neg (i := 1) ev_c H5 (Ex.refl H5) _ fun H6 e6 => rv_ixL (sq_of hl2) (at_last hv (by omega)) H6 e6 _ fun H7 e7 => ?_
      exact q a H7 (fresh_back (e13.trans e4) (hf a (List.mem_of_getElem? hv))) ((((e13.trans e4).trans e5).trans e6).trans e7) (e7 _ _ (e6 _ _ ha))

/-! PROGO ones -/
def sp_onesW (K : PySem.W.Frag) : Sp := fun vs H Q _ => ∃ (n many : Int) (b : Nat), vs = [.int n, .int many] ∧ Nsq n ∧ n ≤ 100000 ∧ 0 ≤ many ∧ many ≤ 20 ∧ b ≤ 30000000 ∧ ((lsp n).1.natAbs < 2 ^ b ∧ (lsp n).2.natAbs < 2 ^ b) ∧ (∀ k : Nat, (k : Int) ≤ many → (Lad.one n (rt n) (mOf n) k).1.natAbs < 2 ^ b ∧ (Lad.one n (rt n) (mOf n) k).2.natAbs < 2 ^ b) ∧
  ∀ (p : Addr) (H2 : Hp) (xs : List V), H p = none → Ex H H2 → H2 p = some (.lst xs) → Prs K H2 xs (oneL n many) → Q (.ref p) H2
theorem oneP_succ (n : Int) (i : Nat) : (List.range (i + 1)).map (fun j => Lad.one n (rt n) (mOf n) (j + 1)) = (List.range i).map (fun j => Lad.one n (rt n) (mOf n) (j + 1)) ++ [Lad.one n (rt n) (mOf n) (i + 1)] := by
  rw [List.range_succ, List.map_append]
  rfl
theorem okW_ones (T : Txt K mg) : FnOk P w K mg base CX0 8 T.a_ones T.d_ones ["number", "many"] (sp_onesW K) := by
  have G_check_number := okE_check_number (P := P) (w := w) (base := base) T
  have G_check_between := okE_check_between (P := P) (w := w) (base := base) T
  have G_check_root := okE_check_root (P := P) (w := w) (base := base) T
  have G_least_one := okE_least_one (P := P) (w := w) (base := base) T
  have G_times := okE_times (P := P) (w := w) (base := base) T
  refine fd_ok T.F_ones sc_ones (fun vs H Q E h => ?_) (fun cdv A outer s H vs Q E hr h => ?_)
  · obtain ⟨n, many, b, rfl, _⟩ := h; rfl
  · obtain ⟨n, many, b, rfl, hn, hle, h0, h1, hb, hls, hsz, q⟩ := h
    have n2 := hn.two
    have R := mOf_spec hn
    refine ⟨_, 
      (pss_cons (ps_expr (pe_call G_check_number (hr.mono (by decide)) (by rfl) T.g_check_number T.F_check_number.kp T.b_check_number .nil pass0 (pa_cons (pv 0) pa_nil))) 
      (pss_cons (ps_expr (pe_call G_check_between (hr.mono (by decide)) (by rfl) T.g_check_between T.F_check_between.kp T.b_check_between .nil pass0 (pa_cons (pv 1) (pa_cons pe_int (pa_cons (pe_glob (v := .int 20) (by rfl) T.g_MOST_ONES ⟨_, rfl⟩) pa_nil))))) 
      (pss_cons (ps_expr (pe_call G_check_root (hr.mono (by decide)) (by rfl) T.g_check_root T.F_check_root.kp T.b_check_root .nil pass0 (pa_cons (pv 0) pa_nil))) 
      (pss_cons (ps_set (i := 2) sc_ones.nd rfl (.inl rfl) (pe_call G_least_one hr (by rfl) T.g_least_one T.F_least_one.kp T.b_least_one .nil pass0 (pa_cons (pv 0) pa_nil))) 
      (pss_cons (ps_set (i := 3) sc_ones.nd rfl (.inl rfl) (pe_tup (pa_cons pe_int (pa_cons pe_int pa_nil)))) 
      (pss_cons (ps_set (i := 4) sc_ones.nd rfl (.inl rfl) (pe_lst pa_nil)) 
      (pss_cons (ps_for PassesOwn.never rfl (pi_range1 rfl T.z_range (pa_cons (pv 1) pa_nil)) (pg_name (i := 5) sc_ones.nd rfl (.inl rfl)) (
        (pss_cons (ps_set (i := 3) sc_ones.nd rfl (.inl rfl) (pe_call G_times (hr.mono (by decide)) (by rfl) T.g_times T.F_times.kp T.b_times .nil pass0 (pa_cons (pv 0) (pa_cons (pv 3) (pa_cons (pv 2) pa_nil))))) 
        (pss_one (ps_expr (pe_bm PySem.F.plainAttrs_list PySem.F.slot_list_append PySem.F.type_list_append mt_append (pv 4) (pa_cons (pv 3) pa_nil))))))) 
      (pss_one (ps_ret (pv 4)))))))))), ?_⟩
    refine q_drop (ev_call (ea_cons (ev_var rfl) ea_nil) (spv_check_number n2 hle)) fun H1 e1 => ?_
    refine q_drop (ev_call (ea_cons (ev_var rfl) (ea_cons ev_c (ea_cons ev_c ea_nil))) (spv_check_between h0 h1)) fun H2 e2 => ?_
    refine q_drop (ev_call (ea_cons (ev_var rfl) ea_nil) (spv_check_root hn hle)) fun H3 e3 => ?_
    refine q_asgU (eu_call (ea_cons (ev_var rfl) ea_nil) (spu_least_one hn hle)) fun pl H4 npl e4 hpl => ?_
    refine q_asgU (xs := [.int 1, .int 0]) (eu_tup (ea_cons ev_c (ea_cons ev_c ea_nil)) (by show (2 : Nat) ≤ 100000; decide)) fun pd H5 npd e5 hpd => ?_
    refine q_asgL (xs := []) (el_lst ea_nil (by decide)) fun fl H6 nfl e6 hfl => ?_
    have e15 := (((e1.trans e2).trans e3).trans e4).trans e5
    have nH : H fl = none := fresh_back e15 nfl
    have o0 : Lad.one n (rt n) (mOf n) 0 = (1, 0) := by
      unfold Lad.one
      rw [Nat.zero_mul]
      rfl
    refine q_forR1 (n := many) (ea_cons (ev_var rfl) ea_nil) ⟨h0, by omega⟩ (fun i σ' H' => ∃ (pd : Addr) (xs : List V) (s5 : Option V), σ' = [some (.int n), some (.int many), some (.ref pl), some (.ref pd), some (.ref fl), s5] ∧ H' pd = some (.tup [.int (Lad.one n (rt n) (mOf n) i).1, .int (Lad.one n (rt n) (mOf n) i).2]) ∧
        H' pl = some (.tup [.int (lsp n).1, .int (lsp n).2]) ∧ H' fl = some (.lst xs) ∧ Prs K H' xs ((List.range i).map fun j => Lad.one n (rt n) (mOf n) (j + 1)) ∧ Ex H H')
      (fun H7 e7 => ⟨pd, [], none, rfl, by rw [o0]; exact e7 _ _ (e6 _ _ hpd), e7 _ _ (e6 _ _ (e5 _ _ hpl)), e7 _ _ hfl, trivial, (e15.trans e6).trans e7⟩) (fun i σ' H' hi h => ?_) (fun σ' H' h => ?_)
    · obtain ⟨pd', xs, s5, rfl, hd', hl', hf', hx, ex⟩ := h
      have sz := hsz i (by omega)
      have nx : Lad.one n (rt n) (mOf n) (i + 1) = Lad.mul n (Lad.one n (rt n) (mOf n) i) (lsp n) := Lad.one_next hn.wh R i
      have nx1 : (Lad.one n (rt n) (mOf n) (i + 1)).1 = (Lad.one n (rt n) (mOf n) i).1 * (lsp n).1 + n * ((Lad.one n (rt n) (mOf n) i).2 * (lsp n).2) := congrArg Prod.fst nx
      have nx2 : (Lad.one n (rt n) (mOf n) (i + 1)).2 = (Lad.one n (rt n) (mOf n) i).1 * (lsp n).2 + (Lad.one n (rt n) (mOf n) i).2 * (lsp n).1 := congrArg Prod.snd nx
      refine q_asgU (eu_call (ea_cons (ev_var rfl) (ea_cons (ev_var rfl) (ea_cons (ev_var rfl) ea_nil))) (spu_times b hn hle hd' hl' hb ⟨sz.1, sz.2, hls.1, hls.2⟩)) fun pz H7 nz e7 hz => ?_
      rw [← nx1, ← nx2] at hz
      have hf7 := e7 _ _ hf'
      have hlen : xs.length = i := by rw [hx.len, List.length_map, List.length_range]
      refine s_appB hf7 (ev_var rfl) (ev_var rfl) (by omega) fun H8 e8 => ?_
      have hf8 := e8 _ _ hf7
      have hz8 := e8 _ _ hz
      have hl8 := e8 _ _ (e7 _ _ hl')
      have hx8 := hx.mono (e7.trans e8)
      refine ⟨pz, xs ++ [.ref pz], _, rfl, ?_, ?_, upd_same, ?_, Ex.mut ((ex.trans e7).trans e8) nH⟩
      · rw [upd_ne (ne_of hz8 hf8 (by intro z; cases z))]; exact hz8
      · rw [upd_ne (ne_of hl8 hf8 (by intro z; cases z))]; exact hl8
      · rw [oneP_succ]
        exact Prs.upd hf8 (Prs.snoc (x := (Lad.one n (rt n) (mOf n) (i + 1)).1) (y := (Lad.one n (rt n) (mOf n) (i + 1)).2) hz8 hx8)
    · obtain ⟨pd', xs, s5, rfl, hd', hl', hf', hx, ex⟩ := h
      exact s_ret (ev_var rfl) fun H7 e7 => q fl H7 xs nH (ex.trans e7) (e7 _ _ hf') (hx.mono e7)
theorem okE_ones (T : Txt K mg) : FnOk P w K mg base CX0 8 T.a_ones T.d_ones ["number", "many"] (sp_ones K) :=
  (okW_ones (P := P) (w := w) (base := base) T).imp fun vs H Q E h => by
    obtain ⟨n, many, rfl, hn, hle, h0, h1, q⟩ := h
    exact ⟨n, many, ZB, rfl, hn, by omega, h0, h1, by decide, one_sz hn hle (k := 1) (by decide), fun k hk => one_sz hn hle (by omega), q⟩

/-! PROGZ stretched and reach -/
def sp_stretched (K : PySem.W.Frag) : Sp := fun vs H Q _ => ∃ (n a b c t : Int) (p : Addr) (z : Nat), vs = [.int n, .ref p, .int c] ∧ Nsq n ∧ n ≤ 100000 ∧ H p = some (.tup [.int a, .int b]) ∧ z ≤ 30000000 ∧ a.natAbs < 2 ^ z ∧ b.natAbs < 2 ^ z ∧ a * a - n * (b * b) = t ∧ t ≠ 0 ∧ t.natAbs ≤ 632 ∧ c ≠ 0 ∧ c.natAbs ≤ 316 ∧
  (∀ k, 1 ≤ k → c = k * k * t → RetU [.int (k * a), .int (k * b)] H Q) ∧ ((∀ k, 1 ≤ k → c ≠ k * k * t) → RetV .non H Q)
theorem okE_stretched (T : Txt K mg) : FnOk P w K mg base CX0 6 T.a_stretched T.d_stretched ["number", "fraction", "told"] (sp_stretched K) := by
  have G_worth := okE_worth (P := P) (w := w) (base := base) T
  have G_is_square := okE_is_square (P := P) (w := w) (base := base) T
  have G_whole_root := okE_whole_root (P := P) (w := w) (base := base) T
  refine T.F_stretched.ok sc_stretched (fun vs H Q E h => ?_) (fun cdv A outer s H vs Q E hr h => ?_)
  · obtain ⟨n, a, b, c, t, p, z, rfl, _⟩ := h; rfl
  · obtain ⟨n, a, b, c, t, p, z, rfl, hn, hle, hp, hz, ha, hb, hw, t0, tl, c0, cl, q1, q2⟩ := h
    refine ⟨_, 
      (pss_cons (ps_set (i := 3) sc_stretched.nd rfl (.inl rfl) (pe_call G_worth hr (by rfl) T.g_worth T.F_worth.kp T.b_worth .nil pass0 (pa_cons (pv 0) (pa_cons (pv 1) pa_nil)))) 
      (pss_cons (ps_if (PW.pt (pw_or (pt_cmpR op_ne (pe_op op_modN (pv 2) (pv 3)) pe_int (nomark _)) (pw_or (pt_cmpR op_lt (pe_op op_fdivN (pv 2) (pv 3)) pe_int (nomark _)) (pw_or1 (pt_not (pt_val (pe_call G_is_square (hr.mono (by decide)) (by rfl) T.g_is_square T.F_is_square.kp T.b_is_square .nil pass0 (pa_cons (pe_op op_fdivN (pv 2) (pv 3)) pa_nil)))))))) (
        (pss_one (ps_ret pe_non))) (pss_nil)) 
      (pss_cons (ps_set (i := 4) sc_stretched.nd rfl (.inl rfl) (pe_call G_whole_root (hr.mono (by decide)) (by rfl) T.g_whole_root T.F_whole_root.kp T.b_whole_root .nil pass0 (pa_cons (pe_op op_fdivN (pv 2) (pv 3)) pa_nil))) 
      (pss_cons (ps_asg (pv 1) (pg_tup rfl (pgs_cons (pg_name (i := 5) sc_stretched.nd rfl (.inl rfl)) (pgs_cons (pg_name (i := 6) sc_stretched.nd rfl (.inl rfl)) pgs_nil)))) 
      (pss_one (ps_ret (pe_tup (pa_cons (pe_op op_mulA (pv 4) (pv 5)) (pa_cons (pe_op op_mulA (pv 4) (pv 6)) pa_nil))))))))), ?_⟩
    refine q_asg (v := .int t) (by
      rw [← hw]
      exact ev_call (ea_cons (ev_var rfl) (ea_cons (ev_var rfl) ea_nil)) (spv_worth z hn hle hp hz ha hb)) fun H1 e1 => ?_
    have hdn : CDivN c t := ⟨t0, by omega⟩
    by_cases hd : t ∣ c
    · obtain ⟨u, hu⟩ := hd
      rw [Int.mul_comm] at hu
      have f0 : c.fmod t = 0 := by rw [hu]; exact Int.mul_fmod_left u t
      have f1 : c.fdiv t = u := by rw [hu]; exact Int.mul_fdiv_cancel u t0
      have ul : u.natAbs ≤ 316 := by
        have h1 : c.natAbs = u.natAbs * t.natAbs := by rw [hu]; exact Int.natAbs_mul u t
        have h2 : u.natAbs * 1 ≤ u.natAbs * t.natAbs := Nat.mul_le_mul_left _ (by omega)
        omega
      have u0 : u ≠ 0 := fun z => by rw [z, Int.zero_mul] at hu; exact c0 hu
      have md : ∀ H', Ev (tOp rNe (tOp (rI (fun _ j => j ≠ 0) fun i j => .int (i.fmod j)) (tVar 2) (tVar 3)) (tC (.int 0))) [some (.int n), some (.ref p), some (.int c), some (.int t), none, none, none] H' (.bl false) := fun H' => ev_is (ev_neI (ev_modN (ev_var rfl) (ev_var rfl) t0) ev_c) (by rw [f0]; rfl)
      have dv : ∀ H', Ev (tOp (rI CDivN fun i j => .int (i.fdiv j)) (tVar 2) (tVar 3)) [some (.int n), some (.ref p), some (.int c), some (.int t), none, none, none] H' (.int u) := fun H' => ev_is (ev_divN (ev_var rfl) (ev_var rfl) hdn) (by rw [f1])
      by_cases hneg : u < 0
      · refine q_when (b := true) (et_is (et_or (et_test (md H1)) fun _ => et_or (b := true) (et_test (ev_lt (dv H1) ev_c)) fun z => absurd hneg (of_decide_eq_false z)) (by rw [decide_eq_true hneg]; rfl)) (fun _ H2 e2 => ?_) (fun z => nomatch z)
        refine s_ret ev_c fun H3 e3 => q2 (fun k hk e => ?_) H3 ((e1.trans e2).trans e3)
        have hk2 : 0 ≤ k * k := Int.mul_nonneg (by omega) (by omega)
        have : u = k * k := Int.eq_of_mul_eq_mul_right t0 (by rw [← hu, ← e])
        omega
      · have un : 0 ≤ u := by omega
        have us : u.natAbs < 2 ^ 250 := n250 (by omega)
        have rs := rt_spec un
        refine q_when (b := !decide (rt u * rt u = u)) (et_is (et_or (et_test (md H1)) fun _ => et_or (et_test (ev_lt (dv H1) ev_c)) fun _ => et_not (et_test (ev_call (ea_cons (dv H1) ea_nil) (spv_is_square un us)))) (by rw [decide_eq_false hneg]; rfl)) (fun z H2 e2 => ?_) (fun z H2 e2 => ?_)
        · have z : rt u * rt u ≠ u := by simpa only [Bool.not_eq_true', decide_eq_false_iff_not] using z
          refine s_ret ev_c fun H3 e3 => q2 (fun k hk e => ?_) H3 ((e1.trans e2).trans e3)
          have hk2 : u = k * k := Int.eq_of_mul_eq_mul_right t0 (by rw [← hu, ← e])
          exact z (by rw [hk2, rt_sq (show 0 ≤ k by omega)])
        · have z : rt u * rt u = u := by simpa only [Bool.not_eq_false', decide_eq_true_eq] using z
          have rp : 1 ≤ rt u := by
            by_cases y : rt u ≤ 0
            · have : rt u = 0 := by omega
              rw [this] at z
              omega
            · omega
          have rl : rt u ≤ 316 := rt_le un (by decide) (by omega)
          refine q_asg (v := .int (rt u)) (ev_call (ea_cons (dv H2) ea_nil) (spv_whole_root un us)) fun H3 e3 => ?_
          have e13 := (e1.trans e2).trans e3
          refine q_asg2 (ev_var rfl) (st_of (e13 _ _ hp)) fun H4 e4 => ?_
          refine s_retU (xs := [.int (rt u * a), .int (rt u * b)]) (eu_tup (ea_cons (ev_mul (ev_var rfl) (ev_var rfl) (mulL (by omega) (by omega))) (ea_cons (ev_mul (ev_var rfl) (ev_var rfl) (mulL (by omega) (by omega))) ea_nil)) (by show (2 : Nat) ≤ 100000; decide)) fun p2 H5 np2 e5 h5 => ?_
          exact q1 (rt u) rp (by rw [z]; exact hu) p2 H5 (fresh_back (e13.trans e4) np2) ((e13.trans e4).trans e5) h5
    · have f0 : c.fmod t ≠ 0 := fun z => hd (Int.dvd_of_fmod_eq_zero z)
      refine q_when (b := true) (et_is (et_or (b := true) (et_test (ev_neI (ev_modN (ev_var rfl) (ev_var rfl) t0) ev_c)) fun z => absurd z (by rw [decide_eq_false f0]; decide)) (by rw [decide_eq_false f0]; rfl)) (fun _ H2 e2 => ?_) (fun z => nomatch z)
      exact s_ret ev_c fun H3 e3 => q2 (fun k hk e => hd ⟨k * k, by rw [e, Int.mul_comm]⟩) H3 ((e1.trans e2).trans e3)
theorem aq_stretched {σ : L2.St} {H : Hp} {D : Ends} {tz : TS} {ta : TA} {i : Nat} {n a b c t : Int} {p : Addr} {z : Nat} (h : EvA ta σ H [.int n, .ref p, .int c]) (hn : Nsq n) (hle : n ≤ 100000) (hp : H p = some (.tup [.int a, .int b])) (hz : z ≤ 30000000) (ha : a.natAbs < 2 ^ z) (hb : b.natAbs < 2 ^ z) (hw : a * a - n * (b * b) = t) (t0 : t ≠ 0) (tl : t.natAbs ≤ 632) (c0 : c ≠ 0) (cl : c.natAbs ≤ 316)
    (k1 : ∀ k, 1 ≤ k → c = k * k * t → ∀ (p2 : Addr) (H2 : Hp), H p2 = none → Ex H H2 → H2 p2 = some (.tup [.int (k * a), .int (k * b)]) → tz D (σ.set i (some (.ref p2))) H2) (k2 : (∀ k, 1 ≤ k → c ≠ k * k * t) → ∀ H2, Ex H H2 → tz D (σ.set i (some .non)) H2) : tSeq (tAsg (tCall (sp_stretched K) [] E0 ta) (gName i)) tz D σ H :=
  h H (Ex.refl H) _ fun H1 e1 => ⟨n, a, b, c, t, p, z, rfl, hn, hle, e1 _ _ hp, hz, ha, hb, hw, t0, tl, c0, cl, fun k hk ek p2 H2 np2 e2 h2 => k1 k hk ek p2 H2 (fresh_back e1 np2) (e1.trans e2) h2, fun hno H2 e2 => k2 hno H2 (e1.trans e2)⟩
theorem sq_lt {c n : Int} (hn : n ≤ 100000) (h : c * c < n) : c.natAbs ≤ 316 := by
  by_cases z : c.natAbs ≤ 316
  · exact z
  · have h1 : (317 : Int) ≤ (c.natAbs : Int) := by omega
    have h2 := Int.mul_le_mul h1 h1 (by decide) (by omega)
    have h3 : (c.natAbs : Int) * (c.natAbs : Int) = c * c := by rw [← Int.natCast_mul]; exact Int.natAbs_mul_self
    omega
theorem q_forTurn {σ : L2.St} {H : Hp} {D : Ends} {tz tu : TS} {ta : TA} {j : Nat} {n : Int} (h : EvA ta σ H [.int n]) (hn : Nsq n) (hle : n ≤ 100000)
    (k : ∀ (l : Addr) (H2 : Hp) (xs : List V), H l = none → Ex H H2 → H2 l = some (.lst xs) → Prs K H2 xs (Lad.crow n (rt n) (Lad.lm (mOf n))) → Fr H xs →
      ∃ Pv : Nat → L2.St → Hp → Prop, Pv 0 σ H2 ∧ (∀ i σ' H', Pv i σ' H' → Ex H2 H') ∧ (∀ i x σ' H', xs[i]? = some x → Pv i σ' H' → tu { D with nx := Pv (i + 1), ct := Pv (i + 1), bk := tz D } (σ'.set j (some x)) H') ∧ (∀ σ' H', Pv xs.length σ' H' → tz D σ' H')) :
    tSeq (tFor (iList K (tCall (sp_whole_turn K) [] E0 ta)) (gName j) tu) tz D σ H :=
  h H (Ex.refl H) _ fun H1 e1 => ⟨n, rfl, hn, hle, fun l H2 xs nl e2 hl hx hf => by
    obtain ⟨Pv, h0, he, hs, hd⟩ := k l H2 xs (fresh_back e1 nl) (e1.trans e2) hl hx (hf.back e1)
    exact ⟨l, rfl, ⟨xs, sq_of hl⟩, for_list Pv h0 (fun i σ' H' _ p => sq_of (he i σ' H' p _ _ hl)) hs hd⟩⟩
def sp_reachW (K : PySem.W.Frag) : Sp := fun vs H Q _ => ∃ n c : Int, vs = [.int n, .int c] ∧ Nsq n ∧ n ≤ 100000 ∧ c ≠ 0 ∧ c * c < n ∧ (∀ x y, Lad.Least n c x y → ∀ (p : Addr) (H2 : Hp), H p = none → Ex H H2 → H2 p = some (.tup [.int x, .int y]) → Q (.ref p) H2) ∧ ((∀ x y, ¬ Lad.Sol n c x y) → RetV .non H Q)
theorem okW_reach (T : Txt K mg) : FnOk P w K mg base CX0 7 T.a_reach T.d_reach ["number", "told"] (sp_reachW K) := by
  have G_check_number := okE_check_number (P := P) (w := w) (base := base) T
  have G_check_any := okE_check_any (P := P) (w := w) (base := base) T
  have G_check_root := okE_check_root (P := P) (w := w) (base := base) T
  have G_whole_turn := okE_whole_turn (P := P) (w := w) (base := base) T
  have G_stretched := okE_stretched (P := P) (w := w) (base := base) T
  refine T.F_reach.ok sc_reach (fun vs H Q E h => ?_) (fun cdv A outer s H vs Q E hr h => ?_)
  · obtain ⟨n, c, rfl, _⟩ := h; rfl
  · obtain ⟨n, c, rfl, hn, hle, c0, hcc, q1, q2⟩ := h
    have n2 := hn.two
    have R := mOf_spec hn
    have ml := mOf_le hn hle
    have ll := lm_le (m := mOf n)
    have cl := sq_lt hle hcc
    refine ⟨_, 
      (pss_cons (ps_expr (pe_call G_check_number (hr.mono (by decide)) (by rfl) T.g_check_number T.F_check_number.kp T.b_check_number .nil pass0 (pa_cons (pv 0) pa_nil))) 
      (pss_cons (ps_expr (pe_call G_check_any (hr.mono (by decide)) (by rfl) T.g_check_any T.F_check_any.kp T.b_check_any .nil pass0 (pa_cons (pv 1) pa_nil))) 
      (pss_cons (ps_expr (pe_call G_check_root (hr.mono (by decide)) (by rfl) T.g_check_root T.F_check_root.kp T.b_check_root .nil pass0 (pa_cons (pv 0) pa_nil))) 
      (pss_cons (ps_if (PW.pt (pw_or (pt_cmpR op_eq (pv 1) pe_int (nomark _)) (pw_or1 (pt_cmpR op_ge (pe_op op_mulA (pv 1) (pv 1)) (pv 0) (nomark _))))) (
        (pss_one (ps_never))) (pss_nil)) 
      (pss_cons (ps_for PassesOwn.never rfl (pi_list (pe_call G_whole_turn hr (by rfl) T.g_whole_turn T.F_whole_turn.kp T.b_whole_turn .nil pass0 (pa_cons (pv 0) pa_nil))) (pg_name (i := 2) sc_reach.nd rfl (.inl rfl)) (
        (pss_cons (ps_set (i := 3) sc_reach.nd rfl (.inl rfl) (pe_call G_stretched hr (by rfl) T.g_stretched T.F_stretched.kp T.b_stretched .nil pass0 (pa_cons (pv 0) (pa_cons (pv 2) (pa_cons (pv 1) pa_nil))))) 
        (pss_one (ps_if (pt_cmpR op_notN (pv 3) pe_non (nomark _)) (
          (pss_one (ps_ret (pv 3)))) (pss_nil)))))) 
      (pss_one (ps_ret pe_non))))))), ?_⟩
    refine q_drop (ev_call (ea_cons (ev_var rfl) ea_nil) (spv_check_number n2 hle)) fun H1 e1 => ?_
    refine q_drop (ev_call (ea_cons (ev_var rfl) ea_nil) spv_check_any) fun H2 e2 => ?_
    refine q_drop (ev_call (ea_cons (ev_var rfl) ea_nil) (spv_check_root hn hle)) fun H3 e3 => ?_
    refine q_when (b := false) (et_is (et_or (et_test (ev_eqI (ev_var rfl) ev_c)) fun _ => et_test (ev_ge (ev_mul (ev_var rfl) (ev_var rfl) (mulL (by omega) (by omega))) (ev_var rfl))) (by rw [decide_eq_false c0, decide_eq_false (show ¬ n ≤ c * c by omega)]; rfl)) (fun z => nomatch z) fun _ H4 e4 => ?_
    have e14 := ((e1.trans e2).trans e3).trans e4
    refine q_forTurn (ea_cons (ev_var rfl) ea_nil) hn hle fun l H6 xs nl e6 hl hx hf => ⟨fun i σ' H' => ∃ s2 s3, σ' = [some (.int n), some (.int c), s2, s3] ∧ Ex H6 H' ∧ ∀ j, j < i → ∀ k, 1 ≤ k → c ≠ k * k * (Lad.sg (j + 1) * (Lad.st n (rt n) (j + 1)).2), ⟨none, none, rfl, Ex.refl _, fun j hj => absurd hj (by omega)⟩, (fun i σ' H' h => by obtain ⟨_, _, _, ex, _⟩ := h; exact ex), (fun i v σ' H' hv h => ?_), (fun σ' H' h => ?_)⟩
    · obtain ⟨s2, s3, rfl, ex, hno⟩ := h
      have hlx : xs.length = Lad.lm (mOf n) := by rw [hx.len, Lad.crow_len]
      have hi : i < Lad.lm (mOf n) := by have := (List.getElem?_eq_some_iff.mp hv).1; omega
      obtain ⟨pr, a, hpr, rfl, hap⟩ := hx.at hv
      rw [Lad.crow_at hi] at hpr
      have e := Option.some.inj hpr
      subst e
      have ha' := ex _ _ hap
      have sz := cv_ZB hn hle (i := i + 2) (by omega)
      have wt : (Lad.cv n (rt n) (i + 2)).1 * (Lad.cv n (rt n) (i + 2)).1 - n * ((Lad.cv n (rt n) (i + 2)).2 * (Lad.cv n (rt n) (i + 2)).2) = Lad.sg (i + 1) * (Lad.st n (rt n) (i + 1)).2 := Lad.cv_worth hn.wh (i + 1)
      obtain ⟨_, _, b3, b4, _⟩ := st_bd hn hle (i + 1)
      have t0 : Lad.sg (i + 1) * (Lad.st n (rt n) (i + 1)).2 ≠ 0 ∧ (Lad.sg (i + 1) * (Lad.st n (rt n) (i + 1)).2).natAbs ≤ 632 := by
        rcases Lad.sg_or (i + 1) with ⟨s, _⟩ | ⟨s, _⟩ <;> rw [s] <;> omega
      have e16 := e14.trans e6
      refine aq_stretched (ea_cons (ev_var rfl) (ea_cons (ev_var rfl) (ea_cons (ev_var rfl) ea_nil))) hn hle ha' (show ZB ≤ 30000000 by decide) sz.1 sz.2 wt t0.1 t0.2 c0 cl (fun k hk ek p2 H8 np2 e8 h8 => ?_) (fun hno2 H8 e8 => ?_)
      · refine s_when (b := true) (et_test (ev_op (ev_var rfl) ev_c rv_notN)) (fun _ H9 e9 => ?_) (fun z => nomatch z)
        refine s_ret (ev_var rfl) fun H10 e10 => ?_
        have L := Lad.first_least hn.wh R hcc hk ek hno
        have e17 := e16.trans ex
        exact q1 _ _ L p2 H10 (fresh_back e17 np2) (((e17.trans e8).trans e9).trans e10) (e10 _ _ (e9 _ _ h8))
      · refine s_when (b := false) (et_test (ev_op (ev_var rfl) ev_c rv_notN)) (fun z => nomatch z) (fun _ H9 e9 => ?_)
        refine ⟨_, _, rfl, (ex.trans e8).trans e9, fun j hj => ?_⟩
        by_cases z : j = i
        · subst z
          exact hno2
        · exact hno j (by omega)
    · obtain ⟨s2, s3, rfl, ex, hno⟩ := h
      have hlx : xs.length = Lad.lm (mOf n) := by rw [hx.len, Lad.crow_len]
      rw [hlx] at hno
      refine s_ret ev_c fun H7 e7 => ?_
      refine q2 (fun x y hs => ?_) H7 (((e14.trans e6).trans ex).trans e7)
      obtain ⟨x', y', hL⟩ := Lad.least_ex hs
      obtain ⟨j, k, hk, hj, _, _, ec⟩ := Lad.least_on hn.wh R hcc hL
      exact hno j (by omega) k hk ec

/-! the eight other functions, of good ones -/
theorem ok_ladder (T : Txt K mg) : FnOk P w K mg base CX0 5 T.a_ladder T.d_ladder ["number"] (SpOk GNum) :=
  (okE_ladder (P := P) (w := w) (base := base) T).imp fun vs H Q E h => by
    obtain ⟨ds, hA, ⟨n, rfl, hn, hle⟩, q⟩ := h
    obtain ⟨v, _, rfl, hv, rfl⟩ := hA
    cases (show v = .int n from hv)
    exact ⟨n, rfl, hn, hle, fun p l H2 _ _ _ e _ _ => q _ H2 e⟩
theorem ok_least_one (T : Txt K mg) : FnOk P w K mg base CX0 7 T.a_least_one T.d_least_one ["number"] (SpOk GNum) :=
  (okE_least_one (P := P) (w := w) (base := base) T).imp fun vs H Q E h => by
    obtain ⟨ds, hA, ⟨n, rfl, hn, hle⟩, q⟩ := h
    obtain ⟨v, _, rfl, hv, rfl⟩ := hA
    cases (show v = .int n from hv)
    exact ⟨n, rfl, hn, hle, fun p H2 _ e _ => q _ H2 e⟩
theorem ok_least_less_one (T : Txt K mg) : FnOk P w K mg base CX0 6 T.a_least_less_one T.d_least_less_one ["number"] (SpOk GNum) :=
  (okE_least_less_one (P := P) (w := w) (base := base) T).imp fun vs H Q E h => by
    obtain ⟨ds, hA, ⟨n, rfl, hn, hle⟩, q⟩ := h
    obtain ⟨v, _, rfl, hv, rfl⟩ := hA
    cases (show v = .int n from hv)
    exact ⟨n, rfl, hn, hle, fun _ p H2 _ e _ => q _ H2 e, fun _ H2 e => q _ H2 e⟩
theorem ok_fractions (T : Txt K mg) : FnOk P w K mg base CX0 6 T.a_fractions T.d_fractions ["number", "many"] (SpOk (GMany 200)) :=
  (okE_fractions (P := P) (w := w) (base := base) T).imp fun vs H Q E h => by
    obtain ⟨ds, hA, ⟨n, m, rfl, hn, hle, h0, h1, _⟩, q⟩ := h
    obtain ⟨v, _, rfl, hv, v2, _, rfl, hv2, rfl⟩ := hA
    cases (show v = .int n from hv)
    cases (show v2 = .int m from hv2)
    exact ⟨n, m, rfl, hn, hle, h0, h1, fun p H2 xs _ e _ _ => q _ H2 e⟩
theorem ok_ones (T : Txt K mg) : FnOk P w K mg base CX0 8 T.a_ones T.d_ones ["number", "many"] (SpOk (GMany 20)) :=
  (okW_ones (P := P) (w := w) (base := base) T).imp fun vs H Q E h => by
    obtain ⟨ds, hA, ⟨n, m, rfl, hn, hle, h0, h1, hor⟩, q⟩ := h
    obtain ⟨v, _, rfl, hv, v2, _, rfl, hv2, rfl⟩ := hA
    cases (show v = .int n from hv)
    cases (show v2 = .int m from hv2)
    have ml := mOf_le hn hle
    have ll := lm_le (m := mOf n)
    have key : ∀ k : Nat, (k : Int) ≤ m → k * Lad.lm (mOf n) ≤ 1203966 := fun k hk => by
      rcases hor with h3 | h3
      · have a := mOf_3000 hn h3
        have : k * Lad.lm (mOf n) ≤ 20 * 11990 := Nat.mul_le_mul (by omega) (by omega)
        omega
      · have : k * Lad.lm (mOf n) ≤ 3 * 401322 := Nat.mul_le_mul (by omega) (by omega)
        omega
    obtain ⟨b, hb1, hb2⟩ : ∃ b : Nat, 12039671 ≤ b ∧ b ≤ 30000000 := ⟨12039671, Nat.le_refl _, by decide⟩
    have sz : ∀ i : Nat, i ≤ 1203967 → (Lad.cv n (rt n) i).1.natAbs < 2 ^ b ∧ (Lad.cv n (rt n) i).2.natAbs < 2 ^ b := fun i hi => by
      have a := Lad.cv_sz hn.wh (rt_316 (by have := hn.two; omega) hle) i
      exact ⟨pw_mono a.1 (by omega), pw_mono a.2 (by omega)⟩
    exact ⟨n, m, b, rfl, hn, hle, h0, h1, hb2, sz _ (by rw [Nat.one_mul]; omega), fun k hk => sz _ (by have := key k hk; omega), fun p H2 xs _ e _ _ => q _ H2 e⟩
theorem ok_reach (T : Txt K mg) : FnOk P w K mg base CX0 7 T.a_reach T.d_reach ["number", "told"] (SpOk GTold) :=
  (okW_reach (P := P) (w := w) (base := base) T).imp fun vs H Q E h => by
    obtain ⟨ds, hA, ⟨n, c, rfl, hn, hle, h0, h1, _⟩, q⟩ := h
    obtain ⟨v, _, rfl, hv, v2, _, rfl, hv2, rfl⟩ := hA
    cases (show v = .int n from hv)
    cases (show v2 = .int c from hv2)
    exact ⟨n, c, rfl, hn, hle, h0, h1, fun x y _ p H2 _ e _ => q _ H2 e, fun _ H2 e => q _ H2 e⟩
theorem ok_worth (T : Txt K mg) : FnOk P w K mg base CX0 5 T.a_worth T.d_worth ["number", "pair"] (SpOk GPair) :=
  (okE_worth (P := P) (w := w) (base := base) T).imp fun vs H Q E h => by
    obtain ⟨ds, hA, ⟨n, d, rfl, hn, hle, a, b, rfl, ha, hb⟩, q⟩ := h
    obtain ⟨v, _, rfl, hv, v2, _, rfl, ⟨p, us, rfl, hp, u1, _, rfl, hu1, u2, _, rfl, hu2, rfl⟩, rfl⟩ := hA
    cases (show v = .int n from hv)
    cases (show u1 = .int a from hu1)
    cases (show u2 = .int b from hu2)
    exact ⟨n, a, b, p, 250, rfl, hn, hle, hp, by decide, ha, hb, fun H2 e => q _ H2 e⟩
theorem ok_times (T : Txt K mg) : FnOk P w K mg base CX0 5 T.a_times T.d_times ["number", "one", "other"] (SpOk GPairs) :=
  (okE_times (P := P) (w := w) (base := base) T).imp fun vs H Q E h => by
    obtain ⟨ds, hA, ⟨n, d, d', rfl, hn, hle, ⟨a, b, rfl, ha, hb⟩, ⟨a', b', rfl, ha', hb'⟩⟩, q⟩ := h
    obtain ⟨v, _, rfl, hv, v2, _, rfl, ⟨p, us, rfl, hp, u1, _, rfl, hu1, u2, _, rfl, hu2, rfl⟩, v3, _, rfl, ⟨p', us', rfl, hp', u1', _, rfl, hu1', u2', _, rfl, hu2', rfl⟩, rfl⟩ := hA
    cases (show v = .int n from hv)
    cases (show u1 = .int a from hu1)
    cases (show u2 = .int b from hu2)
    cases (show u1' = .int a' from hu1')
    cases (show u2' = .int b' from hu2')
    exact ⟨n, a, b, a', b', p, p', 250, rfl, hn, hle, hp, hp', by decide, ⟨ha, hb, ha', hb'⟩, fun p2 H2 _ e _ => q _ H2 e⟩

/-! what is refused: the checks, of good and of bad ones -/
def SpTot (cN cR : Addr) (ok : List D → Prop) (bad : List D → Bool → Prop) : Sp := fun vs H Q E => ∃ ds, HasA H ds vs ∧ ((ok ds ∧ ∀ H1, Ex H H1 → Q .non H1) ∨ ∃ r, bad ds r ∧ ∀ H1, Ex H H1 → E (.ref (if r = true then cR else cN)) none H1)
section
variable {σ : L2.St} {H : Hp} {ta : TA} {De : Ends} {tz : TS} {vs : List V} {ds : List D} {r : Bool} {cN cR : Addr} {ok : List D → Prop} {bad : List D → Bool → Prop} {E : L2.St → XK}
theorem s_dropT (h : EvA ta σ H vs) (hd : HasA H ds vs) (g : ok ds) (k : ∀ H1, Ex H H1 → De.nx σ H1) : tDrop (tCallS (SpTot cN cR ok bad) E ta) De σ H :=
  h H (Ex.refl H) _ fun H1 e1 => ⟨ds, hd.mono e1, .inl ⟨g, fun H2 e2 => k H2 (e1.trans e2)⟩⟩
theorem q_dropT (h : EvA ta σ H vs) (hd : HasA H ds vs) (g : ok ds) (k : ∀ H1, Ex H H1 → tz De σ H1) : tSeq (tDrop (tCallS (SpTot cN cR ok bad) E ta)) tz De σ H := s_dropT (De := { De with nx := tz De }) h hd g k
theorem s_dropXT (h : EvA ta σ H vs) (hd : HasA H ds vs) (g : bad ds r) (k : ∀ H1, Ex H H1 → E σ (.ref (if r = true then cR else cN)) none H1) : tDrop (tCallS (SpTot cN cR ok bad) E ta) De σ H :=
  h H (Ex.refl H) _ fun H1 e1 => ⟨ds, hd.mono e1, .inr ⟨r, g, fun H2 e2 => k H2 (e1.trans e2)⟩⟩
theorem q_dropXT (h : EvA ta σ H vs) (hd : HasA H ds vs) (g : bad ds r) (k : ∀ H1, Ex H H1 → E σ (.ref (if r = true then cR else cN)) none H1) : tSeq (tDrop (tCallS (SpTot cN cR ok bad) E ta)) tz De σ H := s_dropXT (De := { De with nx := tz De }) h hd g k
theorem x_call {Q : VK} (h : EvA ta σ H vs) (hd : HasA H ds vs) (g : bad ds r) (k : ∀ H1, Ex H H1 → E σ (.ref (if r = true then cR else cN)) none H1) : tCallS (SpBad cN cR bad) E ta σ H Q :=
  h H (Ex.refl H) _ fun H1 e1 => ⟨ds, r, hd.mono e1, g, fun H2 e2 => k H2 (e1.trans e2)⟩
end
def OAny (ds : List D) : Prop := ∃ n : Int, ds = [.int n]
def XAny (ds : List D) (r : Bool) : Prop := ∃ d, ds = [d] ∧ r = false ∧ NotNum d
def OBet (ds : List D) : Prop := ∃ n lo hi : Int, ds = [.int n, .int lo, .int hi] ∧ lo ≤ n ∧ n ≤ hi
def Lim (lo hi : Int) : Prop := (lo = 2 ∧ hi = 100000) ∨ (lo = 0 ∧ hi = 200) ∨ (lo = 0 ∧ hi = 20)
def XBet (ds : List D) (r : Bool) : Prop := ∃ (d : D) (lo hi : Int), ds = [d, .int lo, .int hi] ∧ r = false ∧ Lim lo hi ∧ BadNum lo hi d
def ONum (ds : List D) : Prop := ∃ n : Int, ds = [.int n] ∧ Ran n
def XNum (ds : List D) (r : Bool) : Prop := ∃ d, ds = [d] ∧ r = false ∧ BadNum 2 100000 d
def ORoot (ds : List D) : Prop := ∃ n : Int, ds = [.int n] ∧ Nsq n ∧ n ≤ 100000
def XRoot (ds : List D) (r : Bool) : Prop := ∃ n : Int, ds = [.int n] ∧ r = true ∧ Squ n
def OPair (ds : List D) : Prop := ∃ d, ds = [d] ∧ Pr d
def XPair (ds : List D) (r : Bool) : Prop := ∃ d, ds = [d] ∧ r = false ∧ BadPair d
theorem okT_check_any (T : Txt K mg) : FnOk P w K mg base (CX P w) 2 T.a_check_any T.d_check_any ["value"] (SpTot T.cN T.cR OAny XAny) := by
  have G_is_number := ok_is_number (P := P) (w := w) (base := base) T
  refine T.F_check_any.okX sc_check_any (fun vs H Q E h => ?_) (fun cdv A outer s H vs Q E hr h => ?_)
  · obtain ⟨ds, hA, ⟨⟨n, rfl⟩, _⟩ | ⟨r, ⟨d, rfl, _⟩, _⟩⟩ := h <;> rw [hA.len] <;> rfl
  · obtain ⟨ds, hA, h⟩ := h
    refine ⟨_, 
      (pss_one (ps_if (pt_not (pt_val (pe_call G_is_number hr (by rfl) T.g_is_number T.F_is_number.kp T.b_is_number .nil pass0 (pa_cons (pv 0) pa_nil)))) (
        (pss_one (ps_raise rfl (takes_of rfl rfl rfl rfl) (pmk_own PySem.F.excBase_ValueError T.cf.xN T.g_NoNumber T.cf.kN (raises_own T.cf.bN T.cf.tN) (by rfl))))) (pss_nil))), ?_⟩
    rcases h with ⟨⟨n, rfl⟩, q⟩ | ⟨r, ⟨d, rfl, rfl, hd⟩, q⟩
    · obtain ⟨v, _, rfl, hv, rfl⟩ := hA
      exact s_when (b := false) (et_is (et_not (et_test (ev_call (ea_cons (ev_var rfl) ea_nil) (spv_is_number hv)))) rfl) (fun z => nomatch z) fun _ H1 e1 => q H1 e1
    · obtain ⟨v, _, rfl, hv, rfl⟩ := hA
      exact s_when (b := true) (et_is (et_not (et_test (ev_call (ea_cons (ev_var rfl) ea_nil) (spv_is_number hv)))) (by rw [notNum_isInt hd]; rfl)) (fun _ H1 e1 => q H1 e1) (fun z => nomatch z)
theorem okT_check_between (T : Txt K mg) : FnOk P w K mg base (CX P w) 2 T.a_check_between T.d_check_between ["value", "least", "greatest"] (SpTot T.cN T.cR OBet XBet) := by
  have G_is_number := ok_is_number (P := P) (w := w) (base := base) T
  refine T.F_check_between.okX sc_check_between (fun vs H Q E h => ?_) (fun cdv A outer s H vs Q E hr h => ?_)
  · obtain ⟨ds, hA, ⟨⟨n, lo, hi, rfl, _⟩, _⟩ | ⟨r, ⟨d, lo, hi, rfl, _⟩, _⟩⟩ := h <;> rw [hA.len] <;> rfl
  · obtain ⟨ds, hA, h⟩ := h
    refine ⟨_, 
      (pss_one (ps_if (PW.pt (pw_or (pt_not (pt_val (pe_call G_is_number hr (by rfl) T.g_is_number T.F_is_number.kp T.b_is_number .nil pass0 (pa_cons (pv 0) pa_nil)))) (pw_or (pt_cmpR op_lt (pv 0) (pv 1) (nomark _)) (pw_or1 (pt_cmpR op_gt (pv 0) (pv 2) (nomark _)))))) (
        (pss_one (ps_raise rfl (takes_of rfl rfl rfl rfl) (SkE.pmk_own1 PySem.F.excBase_ValueError T.cf.xN T.g_NoNumber T.cf.kN (raises_own T.cf.bN T.cf.tN) (by rfl) (pe_joined (.cons pe_str (.cons (pe_fmt (pv 1)) (.cons pe_str (.cons (pe_fmt (pv 2)) (.cons pe_str .nil)))))))))) (pss_nil))), ?_⟩
    rcases h with ⟨⟨n, lo, hi, rfl, h0, h1⟩, q⟩ | ⟨r, ⟨d, lo, hi, rfl, rfl, hl, hd⟩, q⟩
    · obtain ⟨v, _, rfl, hv, v2, _, rfl, hv2, v3, _, rfl, hv3, rfl⟩ := hA
      cases (show v = .int n from hv)
      cases (show v2 = .int lo from hv2)
      cases (show v3 = .int hi from hv3)
      exact s_when (b := false) (et_is (et_or (et_not (et_test (ev_call (ea_cons (ev_var rfl) ea_nil) spn_is_number))) fun _ => et_or (et_test (ev_lt (ev_var rfl) (ev_var rfl))) fun _ => et_test (ev_gt (ev_var rfl) (ev_var rfl))) (by
        rw [decide_eq_false (show ¬ n < lo by omega), decide_eq_false (show ¬ hi < n by omega)]; rfl)) (fun z => nomatch z) fun _ H1 e1 => q H1 e1
    · obtain ⟨v, _, rfl, hv, v2, _, rfl, hv2, v3, _, rfl, hv3, rfl⟩ := hA
      cases (show v2 = .int lo from hv2)
      cases (show v3 = .int hi from hv3)
      refine s_when (b := true) ?_ (fun _ H1 e1 => ?_) (fun z => nomatch z)
      · rcases hd with hd | ⟨i, rfl, hi', _⟩
        · exact et_is (et_or (b := true) (et_not (et_test (ev_call (ea_cons (ev_var rfl) ea_nil) (spv_is_number hv)))) fun z => by rw [notNum_isInt hd] at z; cases z) (by rw [notNum_isInt hd]; rfl)
        · cases (show v = .int i from hv)
          exact et_is (et_or (et_not (et_test (ev_call (ea_cons (ev_var rfl) ea_nil) spn_is_number))) fun _ => et_or (et_test (ev_lt (ev_var rfl) (ev_var rfl))) fun _ => et_test (ev_gt (ev_var rfl) (ev_var rfl))) (by
            by_cases z : i < lo
            · rw [decide_eq_true z]; rfl
            · rw [decide_eq_false z, decide_eq_true (show hi < i by omega)]; rfl)
      · rcases hl with ⟨rfl, rfl⟩ | ⟨rfl, rfl⟩ | ⟨rfl, rfl⟩ <;>
        exact ⟨_, rfl, by decide +kernel, ⟨_, rfl, .inr ⟨_, rfl, by decide +kernel, _, rfl, by decide +kernel, _, rfl, by decide +kernel, ⟨_, rfl, .inr ⟨_, rfl, by decide +kernel, _, rfl, by decide +kernel, _, rfl, by decide +kernel, q H1 e1⟩⟩⟩⟩⟩
theorem okT_check_number (T : Txt K mg) : FnOk P w K mg base (CX P w) 3 T.a_check_number T.d_check_number ["number"] (SpTot T.cN T.cR ONum XNum) := by
  have GB_check_between := okT_check_between (P := P) (w := w) (base := base) T
  refine T.F_check_number.okX sc_check_number (fun vs H Q E h => ?_) (fun cdv A outer s H vs Q E hr h => ?_)
  · obtain ⟨ds, hA, ⟨⟨n, rfl, _⟩, _⟩ | ⟨r, ⟨d, rfl, _⟩, _⟩⟩ := h <;> rw [hA.len] <;> rfl
  · obtain ⟨ds, hA, h⟩ := h
    refine ⟨_, 
      (pss_one (ps_expr (pe_callS GB_check_between hr (by rfl) T.g_check_between T.F_check_between.kp T.b_check_between (passAt (takes_of rfl rfl rfl rfl)) (pa_cons (pv 0) (pa_cons (pe_glob (v := .int 2) (by rfl) T.g_LEAST_NUMBER ⟨_, rfl⟩) (pa_cons (pe_glob (v := .int 100000) (by rfl) T.g_GREATEST_NUMBER ⟨_, rfl⟩) pa_nil)))))), ?_⟩
    rcases h with ⟨⟨n, rfl, hn⟩, q⟩ | ⟨r, ⟨d, rfl, rfl, hd⟩, q⟩
    · obtain ⟨v, _, rfl, hv, rfl⟩ := hA
      exact s_dropT (ds := [.int n, .int 2, .int 100000]) (ea_cons (ev_var rfl) (ea_cons ev_c (ea_cons ev_c ea_nil))) ⟨v, _, rfl, hv, _, _, rfl, rfl, _, _, rfl, rfl, rfl⟩ ⟨n, 2, 100000, rfl, hn.1, hn.2⟩ fun H1 e1 => q H1 e1
    · obtain ⟨v, _, rfl, hv, rfl⟩ := hA
      exact s_dropXT (ds := [d, .int 2, .int 100000]) (r := false) (ea_cons (ev_var rfl) (ea_cons ev_c (ea_cons ev_c ea_nil))) ⟨v, _, rfl, hv, _, _, rfl, rfl, _, _, rfl, rfl, rfl⟩ ⟨d, 2, 100000, rfl, rfl, .inl ⟨rfl, rfl⟩, hd⟩ fun H1 e1 => q H1 e1
theorem okT_check_root (T : Txt K mg) : FnOk P w K mg base (CX P w) 4 T.a_check_root T.d_check_root ["number"] (SpTot T.cN T.cR ORoot XRoot) := by
  have G_is_square := okE_is_square (P := P) (w := w) (base := base) T
  refine T.F_check_root.okX sc_check_root (fun vs H Q E h => ?_) (fun cdv A outer s H vs Q E hr h => ?_)
  · obtain ⟨ds, hA, ⟨⟨n, rfl, _⟩, _⟩ | ⟨r, ⟨d, rfl, _⟩, _⟩⟩ := h <;> rw [hA.len] <;> rfl
  · obtain ⟨ds, hA, h⟩ := h
    refine ⟨_, 
      (pss_one (ps_if (pt_val (pe_call G_is_square hr (by rfl) T.g_is_square T.F_is_square.kp T.b_is_square .nil pass0 (pa_cons (pv 0) pa_nil))) (
        (pss_one (ps_raise rfl (takes_of rfl rfl rfl rfl) (pmk_own PySem.F.excBase_ValueError T.cf.xR T.g_NoRoot T.cf.kR (raises_own T.cf.bR T.cf.tR) (by rfl))))) (pss_nil))), ?_⟩
    rcases h with ⟨⟨n, rfl, hn, hle⟩, q⟩ | ⟨r, ⟨n, rfl, rfl, hs⟩, q⟩
    · obtain ⟨v, _, rfl, hv, rfl⟩ := hA
      cases (show v = .int n from hv)
      have n2 := hn.two
      exact s_when (b := false) (et_is (et_test (ev_call (ea_cons (ev_var rfl) ea_nil) (spv_is_square (by omega) (n250 (by omega))))) (decide_eq_false hn.ns)) (fun z => nomatch z) fun _ H1 e1 => q H1 e1
    · obtain ⟨v, _, rfl, hv, rfl⟩ := hA
      cases (show v = .int n from hv)
      obtain ⟨s1, s2, s3⟩ := hs
      exact s_when (b := true) (et_is (et_test (ev_call (ea_cons (ev_var rfl) ea_nil) (spv_is_square (by omega) (n250 (by omega))))) (decide_eq_true s3)) (fun _ H1 e1 => q H1 e1) (fun z => nomatch z)
theorem okT_check_pair (T : Txt K mg) : FnOk P w K mg base (CX P w) 3 T.a_check_pair T.d_check_pair ["value"] (SpTot T.cN T.cR OPair XPair) := by
  have GB_check_any := okT_check_any (P := P) (w := w) (base := base) T
  refine T.F_check_pair.okX sc_check_pair (fun vs H Q E h => ?_) (fun cdv A outer s H vs Q E hr h => ?_)
  · obtain ⟨ds, hA, ⟨⟨n, rfl, _⟩, _⟩ | ⟨r, ⟨d, rfl, _⟩, _⟩⟩ := h <;> rw [hA.len] <;> rfl
  · obtain ⟨ds, hA, h⟩ := h
    refine ⟨_, 
      (pss_cons (ps_if (PW.pt (pw_or (pt_not (pt_val (pe_callB (id := "isinstance") (kisi (K := K) rfl) (by rfl) T.z_isinstance (by decide +kernel) (pa_cons (pv 0) (pa_cons (pe_bltn (v := .ty "tuple") (u := .type "tuple") (by rfl) T.z_tuple (by decide +kernel) rfl) pa_nil))))) (pw_or1 (pt_cmpR op_ne (pe_callB (id := "len") (klen (K := K) rfl) (by rfl) T.z_len (by decide +kernel) (pa_cons (pv 0) pa_nil)) pe_int (nomark _))))) (
        (pss_one (ps_raise rfl (takes_of rfl rfl rfl rfl) (pmk_own PySem.F.excBase_ValueError T.cf.xN T.g_NoNumber T.cf.kN (raises_own T.cf.bN T.cf.tN) (by rfl))))) (pss_nil)) 
      (pss_one (ps_for (passes_of rfl) rfl (pi_tup (pv 0)) (pg_name (i := 1) sc_check_pair.nd rfl (.inl rfl)) (
        (pss_one (ps_expr (pe_callS GB_check_any hr (by rfl) T.g_check_any T.F_check_any.kp T.b_check_any (passAt (takes_of rfl rfl rfl rfl)) (pa_cons (pv 1) pa_nil)))))))), ?_⟩
    have notT : ∀ {d : D} {v : V} {H : Hp}, Has H d v → kitB (dty d) "tuple" = some false → EvT (tOr (tNot (tB (tCB (rIsi K) (tCons (tVar 0) (tCons (tC (.ty "tuple")) tNil))))) (tTest (tOp rNe (tCB (rLenS K) (tCons (tVar 0) tNil)) (tC (.int 2))))) [some v, none] H true := fun {d v H} hv hk =>
      et_is (et_or (b := true) (et_not (et_B (ev_isD (ev_var rfl) hv hk))) fun z => nomatch z) rfl
    rcases h with ⟨⟨d, rfl, x, y, rfl, _, _⟩, q⟩ | ⟨r, ⟨d, rfl, rfl, hd⟩, q⟩
    · obtain ⟨v, _, rfl, ⟨p, us, rfl, hp, u1, _, rfl, hu1, u2, _, rfl, hu2, rfl⟩, rfl⟩ := hA
      cases (show u1 = .int x from hu1)
      cases (show u2 = .int y from hu2)
      refine q_when (b := false) (et_is (et_or (et_not (et_B (ev_isT (ev_var rfl) hp))) fun _ => et_test (ev_neI (ev_lenT (ev_var rfl) (st_of hp)) ev_c)) rfl) (fun z => nomatch z) fun _ H1 e1 => ?_
      refine s_forT (xs := [.int x, .int y]) (ev_var rfl) (st_of (e1 _ _ hp)) (fun i σ' H' => ∃ s1, σ' = [some (.ref p), s1] ∧ Ex H H') (fun H2 e2 => ⟨none, rfl, e1.trans e2⟩) (fun i σ' H' _ h => by obtain ⟨_, _, ex⟩ := h; exact st_of (ex _ _ hp)) (fun i v σ' H' hv h => ?_) (fun σ' H' h => ?_)
      · obtain ⟨s1, rfl, ex⟩ := h
        obtain ⟨z, rfl⟩ : ∃ z, v = .int z := by
          match i, hv with
          | 0, hv => exact ⟨x, (Option.some.inj hv).symm⟩
          | 1, hv => exact ⟨y, (Option.some.inj hv).symm⟩
          | i + 2, hv => simp at hv
        exact s_dropT (ds := [.int z]) (ea_cons (ev_var rfl) ea_nil) ⟨_, _, rfl, rfl, rfl⟩ ⟨z, rfl⟩ fun H2 e2 => ⟨_, rfl, ex.trans e2⟩
      · obtain ⟨s1, rfl, ex⟩ := h
        exact q H' ex
    · cases hd with
      | non =>
        obtain ⟨v, _, rfl, hv, rfl⟩ := hA
        exact q_when (b := true) (notT hv (show kitB "NoneType" "tuple" = some false by decide +kernel)) (fun _ H1 e1 => q H1 e1) (fun z => nomatch z)
      | int i =>
        obtain ⟨v, _, rfl, hv, rfl⟩ := hA
        exact q_when (b := true) (notT hv (show kitB "int" "tuple" = some false by decide +kernel)) (fun _ H1 e1 => q H1 e1) (fun z => nomatch z)
      | lst xs =>
        obtain ⟨v, _, rfl, hv, rfl⟩ := hA
        exact q_when (b := true) (notT hv (show kitB "list" "tuple" = some false by decide +kernel)) (fun _ H1 e1 => q H1 e1) (fun z => nomatch z)
      | dct =>
        obtain ⟨v, _, rfl, hv, rfl⟩ := hA
        exact q_when (b := true) (notT hv (show kitB "dict" "tuple" = some false by decide +kernel)) (fun _ H1 e1 => q H1 e1) (fun z => nomatch z)
      | one =>
        obtain ⟨v, _, rfl, ⟨p, us, rfl, hp, u1, _, rfl, hu1, rfl⟩, rfl⟩ := hA
        exact q_when (b := true) (et_is (et_or (et_not (et_B (ev_isT (ev_var rfl) hp))) fun _ => et_test (ev_neI (ev_lenT (ev_var rfl) (st_of hp)) ev_c)) rfl) (fun _ H1 e1 => q H1 e1) (fun z => nomatch z)
      | three =>
        obtain ⟨v, _, rfl, ⟨p, us, rfl, hp, u1, _, rfl, hu1, u2, _, rfl, hu2, u3, _, rfl, hu3, rfl⟩, rfl⟩ := hA
        exact q_when (b := true) (et_is (et_or (et_not (et_B (ev_isT (ev_var rfl) hp))) fun _ => et_test (ev_neI (ev_lenT (ev_var rfl) (st_of hp)) ev_c)) rfl) (fun _ H1 e1 => q H1 e1) (fun z => nomatch z)
      | fst d hd =>
        obtain ⟨v, _, rfl, ⟨p, us, rfl, hp, u1, _, rfl, hu1, u2, _, rfl, hu2, rfl⟩, rfl⟩ := hA
        refine q_when (b := false) (et_is (et_or (et_not (et_B (ev_isT (ev_var rfl) hp))) fun _ => et_test (ev_neI (ev_lenT (ev_var rfl) (st_of hp)) ev_c)) rfl) (fun z => nomatch z) fun _ H1 e1 => ?_
        refine s_forT (xs := [u1, u2]) (ev_var rfl) (st_of (e1 _ _ hp)) (fun i σ' H' => i = 0 ∧ ∃ s1, σ' = [some (.ref p), s1] ∧ Ex H H') (fun H2 e2 => ⟨rfl, none, rfl, e1.trans e2⟩) (fun i σ' H' _ h => by obtain ⟨_, _, _, ex⟩ := h; exact st_of (ex _ _ hp)) (fun i v σ' H' hv h => ?_) (fun σ' H' h => ?_)
        · obtain ⟨rfl, s1, rfl, ex⟩ := h
          cases (Option.some.inj hv)
          exact s_dropXT (ds := [d]) (r := false) (ea_cons (ev_var rfl) ea_nil) ⟨_, _, rfl, hu1.mono ex, rfl⟩ ⟨d, rfl, rfl, hd⟩ fun H2 e2 => q H2 (ex.trans e2)
        · obtain ⟨z, _⟩ := h
          exact absurd z (by show ¬ (2 : Nat) = 0; decide)
      | snd d hd =>
        obtain ⟨v, _, rfl, ⟨p, us, rfl, hp, u1, _, rfl, hu1, u2, _, rfl, hu2, rfl⟩, rfl⟩ := hA
        refine q_when (b := false) (et_is (et_or (et_not (et_B (ev_isT (ev_var rfl) hp))) fun _ => et_test (ev_neI (ev_lenT (ev_var rfl) (st_of hp)) ev_c)) rfl) (fun z => nomatch z) fun _ H1 e1 => ?_
        refine s_forT (xs := [u1, u2]) (ev_var rfl) (st_of (e1 _ _ hp)) (fun i σ' H' => i ≤ 1 ∧ ∃ s1, σ' = [some (.ref p), s1] ∧ Ex H H') (fun H2 e2 => ⟨by decide, none, rfl, e1.trans e2⟩) (fun i σ' H' _ h => by obtain ⟨_, _, _, ex⟩ := h; exact st_of (ex _ _ hp)) (fun i v σ' H' hv h => ?_) (fun σ' H' h => ?_)
        · obtain ⟨hi, s1, rfl, ex⟩ := h
          match i, hi, hv with
          | 0, _, hv =>
            cases (Option.some.inj hv)
            cases (show u1 = .int 1 from hu1)
            exact s_dropT (ds := [.int 1]) (ea_cons (ev_var rfl) ea_nil) ⟨_, _, rfl, rfl, rfl⟩ ⟨1, rfl⟩ fun H2 e2 => ⟨by decide, _, rfl, ex.trans e2⟩
          | 1, _, hv =>
            cases (Option.some.inj hv)
            exact s_dropXT (ds := [d]) (r := false) (ea_cons (ev_var rfl) ea_nil) ⟨_, _, rfl, hu2.mono ex, rfl⟩ ⟨d, rfl, rfl, hd⟩ fun H2 e2 => q H2 (ex.trans e2)
        · obtain ⟨z, _⟩ := h
          exact absurd z (by show ¬ (2 : Nat) ≤ 1; decide)
/-! the eight other functions, of bad ones -/
theorem ran_sq {n : Int} (h : Squ n) : Ran n := ⟨h.1, h.2.1⟩
theorem ran_nsq {n : Int} (h : Nsq n) (hle : n ≤ 100000) : Ran n := ⟨h.two, hle⟩
theorem okB_ladder (T : Txt K mg) : FnOk P w K mg base (CX P w) 5 T.a_ladder T.d_ladder ["number"] (SpBad T.cN T.cR BNum) := by
  have GB_check_number := okT_check_number (P := P) (w := w) (base := base) T
  have GB_check_root := okT_check_root (P := P) (w := w) (base := base) T
  have G_whole_root := okE_whole_root (P := P) (w := w) (base := base) T
  have G_quotient_round := okE_quotient_round (P := P) (w := w) (base := base) T
  refine T.F_ladder.okX sc_ladder (fun vs H Q E h => ?_) (fun cdv A outer s H vs Q E hr h => ?_)
  · obtain ⟨ds, r, hA, ⟨d, rfl, _⟩, _⟩ := h; rw [hA.len]; rfl
  · obtain ⟨ds, r, hA, ⟨d, rfl, hb⟩, q⟩ := h
    obtain ⟨v, _, rfl, hv, rfl⟩ := hA
    refine ⟨_, 
      (pss_cons (ps_expr (pe_callS GB_check_number (hr.mono (by decide)) (by rfl) T.g_check_number T.F_check_number.kp T.b_check_number (passAt (takes_of rfl rfl rfl rfl)) (pa_cons (pv 0) pa_nil))) 
      (pss_cons (ps_expr (pe_callS GB_check_root hr (by rfl) T.g_check_root T.F_check_root.kp T.b_check_root (passAt (takes_of rfl rfl rfl rfl)) (pa_cons (pv 0) pa_nil))) 
      (pss_cons (ps_set (i := 1) sc_ladder.nd rfl (.inl rfl) (pe_call G_whole_root (hr.mono (by decide)) (by rfl) T.g_whole_root T.F_whole_root.kp T.b_whole_root .nil pass0 (pa_cons (pv 0) pa_nil))) 
      (pss_one (ps_ret (pe_tup (pa_cons (pv 1) (pa_cons (pe_call G_quotient_round (hr.mono (by decide)) (by rfl) T.g_quotient_round T.F_quotient_round.kp T.b_quotient_round .nil pass0 (pa_cons (pv 0) (pa_cons (pv 1) pa_nil))) pa_nil)))))))), ?_⟩
    rcases hb with ⟨rfl, hb⟩ | ⟨rfl, n, rfl, hs⟩
    · exact q_dropXT (ds := [d]) (r := false) (ea_cons (ev_var rfl) ea_nil) ⟨v, _, rfl, hv, rfl⟩ ⟨d, rfl, rfl, hb⟩ fun H1 e1 => q H1 e1
    · refine q_dropT (ds := [.int n]) (ea_cons (ev_var rfl) ea_nil) ⟨v, _, rfl, hv, rfl⟩ ⟨n, rfl, ran_sq hs⟩ fun H1 e1 => ?_
      exact q_dropXT (ds := [.int n]) (r := true) (ea_cons (ev_var rfl) ea_nil) ⟨v, _, rfl, hv, rfl⟩ ⟨n, rfl, rfl, hs⟩ fun H2 e2 => q H2 (e1.trans e2)
theorem okB_whole_turn (T : Txt K mg) : FnOk P w K mg base (CX P w) 6 T.a_whole_turn T.d_whole_turn ["number"] (SpBad T.cN T.cR BNum) := by
  have GB_ladder := okB_ladder (P := P) (w := w) (base := base) T
  have G_climb := okE_climb (P := P) (w := w) (base := base) T
  have G_is_odd := okE_is_odd (P := P) (w := w) (base := base) T
  refine T.F_whole_turn.okX sc_whole_turn (fun vs H Q E h => ?_) (fun cdv A outer s H vs Q E hr h => ?_)
  · obtain ⟨ds, r, hA, ⟨d, rfl, _⟩, _⟩ := h; rw [hA.len]; rfl
  · obtain ⟨ds, r, hA, ⟨d, rfl, hb⟩, q⟩ := h
    obtain ⟨v, _, rfl, hv, rfl⟩ := hA
    refine ⟨_, 
      (pss_cons (ps_asg (pe_callS GB_ladder hr (by rfl) T.g_ladder T.F_ladder.kp T.b_ladder (passAt (takes_of rfl rfl rfl rfl)) (pa_cons (pv 0) pa_nil)) (pg_tup rfl (pgs_cons (pg_name (i := 1) sc_whole_turn.nd rfl (.inl rfl)) (pgs_cons (pg_name (i := 2) sc_whole_turn.nd rfl (.inl rfl)) pgs_nil)))) 
      (pss_cons (ps_set (i := 3) sc_whole_turn.nd rfl (.inl rfl) (pe_ifExp (pt_val (pe_call G_is_odd (hr.mono (by decide)) (by rfl) T.g_is_odd T.F_is_odd.kp T.b_is_odd .nil pass0 (pa_cons (pe_callB (id := "len") (klen (K := K) rfl) (by rfl) T.z_len (by decide +kernel) (pa_cons (pv 2) pa_nil)) pa_nil))) pe_int pe_int)) 
      (pss_cons (ps_set (i := 4) sc_whole_turn.nd rfl (.inl rfl) (pe_op (kcat (K := K) rfl) (pe_lst (pa_cons (pv 1) pa_nil)) (pe_op op_rep (pv 2) (pv 3)))) 
      (pss_one (ps_ret (pe_call G_climb (hr.mono (by decide)) (by rfl) T.g_climb T.F_climb.kp T.b_climb .nil pass0 (pa_cons (pe_slice (ksl_list (K := K) rfl) (pv 4) po_none (po_some (pe_un un_neg pe_int))) pa_nil))))))), ?_⟩
    exact s_asgX (ea_cons (ev_var rfl) ea_nil) fun H1 e1 Q' => ⟨[d], r, ⟨v, _, rfl, hv.mono e1, rfl⟩, ⟨d, rfl, hb⟩, fun H2 e2 => q H2 (e1.trans e2)⟩
theorem okB_least_one (T : Txt K mg) : FnOk P w K mg base (CX P w) 7 T.a_least_one T.d_least_one ["number"] (SpBad T.cN T.cR BNum) := by
  have GB_whole_turn := okB_whole_turn (P := P) (w := w) (base := base) T
  refine T.F_least_one.okX sc_least_one (fun vs H Q E h => ?_) (fun cdv A outer s H vs Q E hr h => ?_)
  · obtain ⟨ds, r, hA, ⟨d, rfl, _⟩, _⟩ := h; rw [hA.len]; rfl
  · obtain ⟨ds, r, hA, ⟨d, rfl, hb⟩, q⟩ := h
    obtain ⟨v, _, rfl, hv, rfl⟩ := hA
    refine ⟨_, 
      (pss_one (ps_ret (pe_ix (kix_list (K := K) rfl) (pe_callS GB_whole_turn hr (by rfl) T.g_whole_turn T.F_whole_turn.kp T.b_whole_turn (passAt (takes_of rfl rfl rfl rfl)) (pa_cons (pv 0) pa_nil)) (pe_un un_neg pe_int) (fun _ _ => rfl)))), ?_⟩
    exact x_call (ds := [d]) (r := r) (ea_cons (ev_var rfl) ea_nil) ⟨v, _, rfl, hv, rfl⟩ ⟨d, rfl, hb⟩ fun H1 e1 => q H1 e1
theorem okB_least_less_one (T : Txt K mg) : FnOk P w K mg base (CX P w) 6 T.a_least_less_one T.d_least_less_one ["number"] (SpBad T.cN T.cR BNum) := by
  have GB_ladder := okB_ladder (P := P) (w := w) (base := base) T
  have G_climb := okE_climb (P := P) (w := w) (base := base) T
  have G_is_odd := okE_is_odd (P := P) (w := w) (base := base) T
  refine T.F_least_less_one.okX sc_least_less_one (fun vs H Q E h => ?_) (fun cdv A outer s H vs Q E hr h => ?_)
  · obtain ⟨ds, r, hA, ⟨d, rfl, _⟩, _⟩ := h; rw [hA.len]; rfl
  · obtain ⟨ds, r, hA, ⟨d, rfl, hb⟩, q⟩ := h
    obtain ⟨v, _, rfl, hv, rfl⟩ := hA
    refine ⟨_, 
      (pss_cons (ps_asg (pe_callS GB_ladder hr (by rfl) T.g_ladder T.F_ladder.kp T.b_ladder (passAt (takes_of rfl rfl rfl rfl)) (pa_cons (pv 0) pa_nil)) (pg_tup rfl (pgs_cons (pg_name (i := 1) sc_least_less_one.nd rfl (.inl rfl)) (pgs_cons (pg_name (i := 2) sc_least_less_one.nd rfl (.inl rfl)) pgs_nil)))) 
      (pss_cons (ps_if (pt_not (pt_val (pe_call G_is_odd (hr.mono (by decide)) (by rfl) T.g_is_odd T.F_is_odd.kp T.b_is_odd .nil pass0 (pa_cons (pe_callB (id := "len") (klen (K := K) rfl) (by rfl) T.z_len (by decide +kernel) (pa_cons (pv 2) pa_nil)) pa_nil)))) (
        (pss_one (ps_ret pe_non))) (pss_nil)) 
      (pss_cons (ps_set (i := 3) sc_least_less_one.nd rfl (.inl rfl) (pe_op (kcat (K := K) rfl) (pe_lst (pa_cons (pv 1) pa_nil)) (pv 2))) 
      (pss_one (ps_ret (pe_ix (kix_list (K := K) rfl) (pe_call G_climb (hr.mono (by decide)) (by rfl) T.g_climb T.F_climb.kp T.b_climb .nil pass0 (pa_cons (pe_slice (ksl_list (K := K) rfl) (pv 3) po_none (po_some (pe_un un_neg pe_int))) pa_nil)) (pe_un un_neg pe_int) (fun _ _ => rfl))))))), ?_⟩
    exact s_asgX (ea_cons (ev_var rfl) ea_nil) fun H1 e1 Q' => ⟨[d], r, ⟨v, _, rfl, hv.mono e1, rfl⟩, ⟨d, rfl, hb⟩, fun H2 e2 => q H2 (e1.trans e2)⟩
theorem okB_fractions (T : Txt K mg) : FnOk P w K mg base (CX P w) 6 T.a_fractions T.d_fractions ["number", "many"] (SpBad T.cN T.cR (BMany 200)) := by
  have GB_check_number := okT_check_number (P := P) (w := w) (base := base) T
  have GB_check_between := okT_check_between (P := P) (w := w) (base := base) T
  have GB_check_root := okT_check_root (P := P) (w := w) (base := base) T
  have G_ladder := okE_ladder (P := P) (w := w) (base := base) T
  have G_climb := okE_climb (P := P) (w := w) (base := base) T
  refine T.F_fractions.ok sc_fractions (fun vs H Q E h => ?_) (fun cdv A outer s H vs Q E hr h => ?_)
  · obtain ⟨ds, r, hA, ⟨d, e, rfl, _⟩, _⟩ := h; rw [hA.len]; rfl
  · obtain ⟨ds, r, hA, ⟨d, e, rfl, hb⟩, q⟩ := h
    obtain ⟨v, _, rfl, hv, v2, _, rfl, hv2, rfl⟩ := hA
    refine ⟨_, 
      (pss_cons (ps_expr (pe_callS GB_check_number (hr.mono (by decide)) (by rfl) T.g_check_number T.F_check_number.kp T.b_check_number (passAt (takes_of rfl rfl rfl rfl)) (pa_cons (pv 0) pa_nil))) 
      (pss_cons (ps_expr (pe_callS GB_check_between (hr.mono (by decide)) (by rfl) T.g_check_between T.F_check_between.kp T.b_check_between (passAt (takes_of rfl rfl rfl rfl)) (pa_cons (pv 1) (pa_cons pe_int (pa_cons (pe_glob (v := .int 200) (by rfl) T.g_MOST_FRACTIONS ⟨_, rfl⟩) pa_nil))))) 
      (pss_cons (ps_expr (pe_callS GB_check_root (hr.mono (by decide)) (by rfl) T.g_check_root T.F_check_root.kp T.b_check_root (passAt (takes_of rfl rfl rfl rfl)) (pa_cons (pv 0) pa_nil))) 
      (pss_cons (ps_asg (pe_call G_ladder hr (by rfl) T.g_ladder T.F_ladder.kp T.b_ladder .nil pass0 (pa_cons (pv 0) pa_nil)) (pg_tup rfl (pgs_cons (pg_name (i := 2) sc_fractions.nd rfl (.inl rfl)) (pgs_cons (pg_name (i := 3) sc_fractions.nd rfl (.inl rfl)) pgs_nil)))) 
      (pss_cons (ps_set (i := 4) sc_fractions.nd rfl (.inl rfl) (pe_op op_add (pe_op op_fdivA (pv 1) (pe_callB (id := "len") (klen (K := K) rfl) (by rfl) T.z_len (by decide +kernel) (pa_cons (pv 3) pa_nil))) pe_int)) 
      (pss_cons (ps_set (i := 5) sc_fractions.nd rfl (.inl rfl) (pe_op (kcat (K := K) rfl) (pe_lst (pa_cons (pv 2) pa_nil)) (pe_op op_rep (pv 3) (pv 4)))) 
      (pss_one (ps_ret (pe_call G_climb (hr.mono (by decide)) (by rfl) T.g_climb T.F_climb.kp T.b_climb .nil pass0 (pa_cons (pe_slice (ksl_list (K := K) rfl) (pv 5) po_none (po_some (pv 1))) pa_nil)))))))))), ?_⟩
    rcases hb with ⟨rfl, hb⟩ | ⟨rfl, ⟨n, rfl, hn⟩, hb⟩ | ⟨rfl, ⟨n, rfl, hs⟩, m, rfl, h0, h1⟩
    · exact q_dropXT (ds := [d]) (r := false) (ea_cons (ev_var rfl) ea_nil) ⟨v, _, rfl, hv, rfl⟩ ⟨d, rfl, rfl, hb⟩ fun H1 e1 => q H1 e1
    · refine q_dropT (ds := [.int n]) (ea_cons (ev_var rfl) ea_nil) ⟨v, _, rfl, hv, rfl⟩ ⟨n, rfl, hn⟩ fun H1 e1 => ?_
      exact q_dropXT (ds := [e, .int 0, .int 200]) (r := false) (ea_cons (ev_var rfl) (ea_cons ev_c (ea_cons ev_c ea_nil))) ⟨v2, _, rfl, hv2.mono e1, _, _, rfl, rfl, _, _, rfl, rfl, rfl⟩ ⟨e, 0, 200, rfl, rfl, .inr (.inl ⟨rfl, rfl⟩), hb⟩ fun H2 e2 => q H2 (e1.trans e2)
    · refine q_dropT (ds := [.int n]) (ea_cons (ev_var rfl) ea_nil) ⟨v, _, rfl, hv, rfl⟩ ⟨n, rfl, ran_sq hs⟩ fun H1 e1 => ?_
      refine q_dropT (ds := [.int m, .int 0, .int 200]) (ea_cons (ev_var rfl) (ea_cons ev_c (ea_cons ev_c ea_nil))) ⟨v2, _, rfl, hv2.mono e1, _, _, rfl, rfl, _, _, rfl, rfl, rfl⟩ ⟨m, 0, 200, rfl, h0, h1⟩ fun H2 e2 => ?_
      exact q_dropXT (ds := [.int n]) (r := true) (ea_cons (ev_var rfl) ea_nil) ⟨v, _, rfl, hv, rfl⟩ ⟨n, rfl, rfl, hs⟩ fun H3 e3 => q H3 ((e1.trans e2).trans e3)
theorem okB_ones (T : Txt K mg) : FnOk P w K mg base (CX P w) 8 T.a_ones T.d_ones ["number", "many"] (SpBad T.cN T.cR (BMany 20)) := by
  have GB_check_number := okT_check_number (P := P) (w := w) (base := base) T
  have GB_check_between := okT_check_between (P := P) (w := w) (base := base) T
  have GB_check_root := okT_check_root (P := P) (w := w) (base := base) T
  have G_least_one := okE_least_one (P := P) (w := w) (base := base) T
  have G_times := okE_times (P := P) (w := w) (base := base) T
  refine T.F_ones.ok sc_ones (fun vs H Q E h => ?_) (fun cdv A outer s H vs Q E hr h => ?_)
  · obtain ⟨ds, r, hA, ⟨d, e, rfl, _⟩, _⟩ := h; rw [hA.len]; rfl
  · obtain ⟨ds, r, hA, ⟨d, e, rfl, hb⟩, q⟩ := h
    obtain ⟨v, _, rfl, hv, v2, _, rfl, hv2, rfl⟩ := hA
    refine ⟨_, 
      (pss_cons (ps_expr (pe_callS GB_check_number (hr.mono (by decide)) (by rfl) T.g_check_number T.F_check_number.kp T.b_check_number (passAt (takes_of rfl rfl rfl rfl)) (pa_cons (pv 0) pa_nil))) 
      (pss_cons (ps_expr (pe_callS GB_check_between (hr.mono (by decide)) (by rfl) T.g_check_between T.F_check_between.kp T.b_check_between (passAt (takes_of rfl rfl rfl rfl)) (pa_cons (pv 1) (pa_cons pe_int (pa_cons (pe_glob (v := .int 20) (by rfl) T.g_MOST_ONES ⟨_, rfl⟩) pa_nil))))) 
      (pss_cons (ps_expr (pe_callS GB_check_root (hr.mono (by decide)) (by rfl) T.g_check_root T.F_check_root.kp T.b_check_root (passAt (takes_of rfl rfl rfl rfl)) (pa_cons (pv 0) pa_nil))) 
      (pss_cons (ps_set (i := 2) sc_ones.nd rfl (.inl rfl) (pe_call G_least_one hr (by rfl) T.g_least_one T.F_least_one.kp T.b_least_one .nil pass0 (pa_cons (pv 0) pa_nil))) 
      (pss_cons (ps_set (i := 3) sc_ones.nd rfl (.inl rfl) (pe_tup (pa_cons pe_int (pa_cons pe_int pa_nil)))) 
      (pss_cons (ps_set (i := 4) sc_ones.nd rfl (.inl rfl) (pe_lst pa_nil)) 
      (pss_cons (ps_for (passes_of rfl) rfl (pi_range1 rfl T.z_range (pa_cons (pv 1) pa_nil)) (pg_name (i := 5) sc_ones.nd rfl (.inl rfl)) (
        (pss_cons (ps_set (i := 3) sc_ones.nd rfl (.inl rfl) (pe_call G_times (hr.mono (by decide)) (by rfl) T.g_times T.F_times.kp T.b_times .nil pass0 (pa_cons (pv 0) (pa_cons (pv 3) (pa_cons (pv 2) pa_nil))))) 
        (pss_one (ps_expr (pe_bm PySem.F.plainAttrs_list PySem.F.slot_list_append PySem.F.type_list_append mt_append (pv 4) (pa_cons (pv 3) pa_nil))))))) 
      (pss_one (ps_ret (pv 4)))))))))), ?_⟩
    rcases hb with ⟨rfl, hb⟩ | ⟨rfl, ⟨n, rfl, hn⟩, hb⟩ | ⟨rfl, ⟨n, rfl, hs⟩, m, rfl, h0, h1⟩
    · exact q_dropXT (ds := [d]) (r := false) (ea_cons (ev_var rfl) ea_nil) ⟨v, _, rfl, hv, rfl⟩ ⟨d, rfl, rfl, hb⟩ fun H1 e1 => q H1 e1
    · refine q_dropT (ds := [.int n]) (ea_cons (ev_var rfl) ea_nil) ⟨v, _, rfl, hv, rfl⟩ ⟨n, rfl, hn⟩ fun H1 e1 => ?_
      exact q_dropXT (ds := [e, .int 0, .int 20]) (r := false) (ea_cons (ev_var rfl) (ea_cons ev_c (ea_cons ev_c ea_nil))) ⟨v2, _, rfl, hv2.mono e1, _, _, rfl, rfl, _, _, rfl, rfl, rfl⟩ ⟨e, 0, 20, rfl, rfl, .inr (.inr ⟨rfl, rfl⟩), hb⟩ fun H2 e2 => q H2 (e1.trans e2)
    · refine q_dropT (ds := [.int n]) (ea_cons (ev_var rfl) ea_nil) ⟨v, _, rfl, hv, rfl⟩ ⟨n, rfl, ran_sq hs⟩ fun H1 e1 => ?_
      refine q_dropT (ds := [.int m, .int 0, .int 20]) (ea_cons (ev_var rfl) (ea_cons ev_c (ea_cons ev_c ea_nil))) ⟨v2, _, rfl, hv2.mono e1, _, _, rfl, rfl, _, _, rfl, rfl, rfl⟩ ⟨m, 0, 20, rfl, h0, h1⟩ fun H2 e2 => ?_
      exact q_dropXT (ds := [.int n]) (r := true) (ea_cons (ev_var rfl) ea_nil) ⟨v, _, rfl, hv, rfl⟩ ⟨n, rfl, rfl, hs⟩ fun H3 e3 => q H3 ((e1.trans e2).trans e3)
theorem okB_reach (T : Txt K mg) : FnOk P w K mg base (CX P w) 7 T.a_reach T.d_reach ["number", "told"] (SpBad T.cN T.cR BTold) := by
  have GB_check_number := okT_check_number (P := P) (w := w) (base := base) T
  have GB_check_any := okT_check_any (P := P) (w := w) (base := base) T
  have GB_check_root := okT_check_root (P := P) (w := w) (base := base) T
  have G_whole_turn := okE_whole_turn (P := P) (w := w) (base := base) T
  have G_stretched := okE_stretched (P := P) (w := w) (base := base) T
  refine T.F_reach.okX sc_reach (fun vs H Q E h => ?_) (fun cdv A outer s H vs Q E hr h => ?_)
  · obtain ⟨ds, r, hA, ⟨d, e, rfl, _⟩, _⟩ := h; rw [hA.len]; rfl
  · obtain ⟨ds, r, hA, ⟨d, e, rfl, hb⟩, q⟩ := h
    obtain ⟨v, _, rfl, hv, v2, _, rfl, hv2, rfl⟩ := hA
    refine ⟨_, 
      (pss_cons (ps_expr (pe_callS GB_check_number (hr.mono (by decide)) (by rfl) T.g_check_number T.F_check_number.kp T.b_check_number (passAt (takes_of rfl rfl rfl rfl)) (pa_cons (pv 0) pa_nil))) 
      (pss_cons (ps_expr (pe_callS GB_check_any (hr.mono (by decide)) (by rfl) T.g_check_any T.F_check_any.kp T.b_check_any (passAt (takes_of rfl rfl rfl rfl)) (pa_cons (pv 1) pa_nil))) 
      (pss_cons (ps_expr (pe_callS GB_check_root (hr.mono (by decide)) (by rfl) T.g_check_root T.F_check_root.kp T.b_check_root (passAt (takes_of rfl rfl rfl rfl)) (pa_cons (pv 0) pa_nil))) 
      (pss_cons (ps_if (PW.pt (pw_or (pt_cmpR op_eq (pv 1) pe_int (nomark _)) (pw_or1 (pt_cmpR op_ge (pe_op op_mulA (pv 1) (pv 1)) (pv 0) (nomark _))))) (
        (pss_one (ps_raise rfl (takes_of rfl rfl rfl rfl) (pmk_own PySem.F.excBase_ValueError T.cf.xN T.g_NoNumber T.cf.kN (raises_own T.cf.bN T.cf.tN) (by rfl))))) (pss_nil)) 
      (pss_cons (ps_for (passes_of rfl) rfl (pi_list (pe_call G_whole_turn hr (by rfl) T.g_whole_turn T.F_whole_turn.kp T.b_whole_turn .nil pass0 (pa_cons (pv 0) pa_nil))) (pg_name (i := 2) sc_reach.nd rfl (.inl rfl)) (
        (pss_cons (ps_set (i := 3) sc_reach.nd rfl (.inl rfl) (pe_call G_stretched hr (by rfl) T.g_stretched T.F_stretched.kp T.b_stretched .nil pass0 (pa_cons (pv 0) (pa_cons (pv 2) (pa_cons (pv 1) pa_nil))))) 
        (pss_one (ps_if (pt_cmpR op_notN (pv 3) pe_non (nomark _)) (
          (pss_one (ps_ret (pv 3)))) (pss_nil)))))) 
      (pss_one (ps_ret pe_non))))))), ?_⟩
    rcases hb with ⟨rfl, hb⟩ | ⟨rfl, ⟨n, rfl, hn⟩, hb⟩ | ⟨rfl, ⟨n, rfl, hs⟩, c, rfl, hc⟩ | ⟨rfl, n, c, rfl, hn, hle, rfl, hc, hbad⟩
    · exact q_dropXT (ds := [d]) (r := false) (ea_cons (ev_var rfl) ea_nil) ⟨v, _, rfl, hv, rfl⟩ ⟨d, rfl, rfl, hb⟩ fun H1 e1 => q H1 e1
    · refine q_dropT (ds := [.int n]) (ea_cons (ev_var rfl) ea_nil) ⟨v, _, rfl, hv, rfl⟩ ⟨n, rfl, hn⟩ fun H1 e1 => ?_
      exact q_dropXT (ds := [e]) (r := false) (ea_cons (ev_var rfl) ea_nil) ⟨v2, _, rfl, hv2.mono e1, rfl⟩ ⟨e, rfl, rfl, hb⟩ fun H2 e2 => q H2 (e1.trans e2)
    · refine q_dropT (ds := [.int n]) (ea_cons (ev_var rfl) ea_nil) ⟨v, _, rfl, hv, rfl⟩ ⟨n, rfl, ran_sq hs⟩ fun H1 e1 => ?_
      refine q_dropT (ds := [.int c]) (ea_cons (ev_var rfl) ea_nil) ⟨v2, _, rfl, hv2, rfl⟩ ⟨c, rfl⟩ fun H2 e2 => ?_
      exact q_dropXT (ds := [.int n]) (r := true) (ea_cons (ev_var rfl) ea_nil) ⟨v, _, rfl, hv, rfl⟩ ⟨n, rfl, rfl, hs⟩ fun H3 e3 => q H3 ((e1.trans e2).trans e3)
    · cases (show v = .int n from hv)
      cases (show v2 = .int c from hv2)
      refine q_dropT (ds := [.int n]) (ea_cons (ev_var rfl) ea_nil) ⟨_, _, rfl, rfl, rfl⟩ ⟨n, rfl, ran_nsq hn hle⟩ fun H1 e1 => ?_
      refine q_dropT (ds := [.int c]) (ea_cons (ev_var rfl) ea_nil) ⟨_, _, rfl, rfl, rfl⟩ ⟨c, rfl⟩ fun H2 e2 => ?_
      refine q_dropT (ds := [.int n]) (ea_cons (ev_var rfl) ea_nil) ⟨_, _, rfl, rfl, rfl⟩ ⟨n, rfl, hn, hle⟩ fun H3 e3 => ?_
      refine q_when (b := true) (et_is (et_or (et_test (ev_eqI (ev_var rfl) ev_c)) fun _ => et_test (ev_ge (ev_mul (ev_var rfl) (ev_var rfl) (cmulW hc hc)) (ev_var rfl))) ?_) (fun _ H4 e4 => q H4 (((e1.trans e2).trans e3).trans e4)) (fun z => nomatch z)
      rcases hbad with z | z
      · rw [decide_eq_true z]; rfl
      · rw [decide_eq_true z]; exact Bool.or_true _
theorem okB_worth (T : Txt K mg) : FnOk P w K mg base (CX P w) 5 T.a_worth T.d_worth ["number", "pair"] (SpBad T.cN T.cR BPair) := by
  have GB_check_number := okT_check_number (P := P) (w := w) (base := base) T
  have GB_check_root := okT_check_root (P := P) (w := w) (base := base) T
  have GB_check_pair := okT_check_pair (P := P) (w := w) (base := base) T
  refine T.F_worth.okX sc_worth (fun vs H Q E h => ?_) (fun cdv A outer s H vs Q E hr h => ?_)
  · obtain ⟨ds, r, hA, ⟨d, e, rfl, _⟩, _⟩ := h; rw [hA.len]; rfl
  · obtain ⟨ds, r, hA, ⟨d, e, rfl, hb⟩, q⟩ := h
    obtain ⟨v, _, rfl, hv, v2, _, rfl, hv2, rfl⟩ := hA
    refine ⟨_, 
      (pss_cons (ps_expr (pe_callS GB_check_number (hr.mono (by decide)) (by rfl) T.g_check_number T.F_check_number.kp T.b_check_number (passAt (takes_of rfl rfl rfl rfl)) (pa_cons (pv 0) pa_nil))) 
      (pss_cons (ps_expr (pe_callS GB_check_root hr (by rfl) T.g_check_root T.F_check_root.kp T.b_check_root (passAt (takes_of rfl rfl rfl rfl)) (pa_cons (pv 0) pa_nil))) 
      (pss_cons (ps_expr (pe_callS GB_check_pair (hr.mono (by decide)) (by rfl) T.g_check_pair T.F_check_pair.kp T.b_check_pair (passAt (takes_of rfl rfl rfl rfl)) (pa_cons (pv 1) pa_nil))) 
      (pss_cons (ps_asg (pv 1) (pg_tup rfl (pgs_cons (pg_name (i := 2) sc_worth.nd rfl (.inl rfl)) (pgs_cons (pg_name (i := 3) sc_worth.nd rfl (.inl rfl)) pgs_nil)))) 
      (pss_one (ps_ret (pe_op op_sub (pe_op op_mulA (pv 2) (pv 2)) (pe_op op_mulA (pe_op op_mulA (pv 0) (pv 3)) (pv 3))))))))), ?_⟩
    rcases hb with ⟨rfl, hb⟩ | ⟨rfl, n, rfl, hs⟩ | ⟨rfl, ⟨n, rfl, hn, hle⟩, hb⟩
    · exact q_dropXT (ds := [d]) (r := false) (ea_cons (ev_var rfl) ea_nil) ⟨v, _, rfl, hv, rfl⟩ ⟨d, rfl, rfl, hb⟩ fun H1 e1 => q H1 e1
    · refine q_dropT (ds := [.int n]) (ea_cons (ev_var rfl) ea_nil) ⟨v, _, rfl, hv, rfl⟩ ⟨n, rfl, ran_sq hs⟩ fun H1 e1 => ?_
      exact q_dropXT (ds := [.int n]) (r := true) (ea_cons (ev_var rfl) ea_nil) ⟨v, _, rfl, hv, rfl⟩ ⟨n, rfl, rfl, hs⟩ fun H2 e2 => q H2 (e1.trans e2)
    · refine q_dropT (ds := [.int n]) (ea_cons (ev_var rfl) ea_nil) ⟨v, _, rfl, hv, rfl⟩ ⟨n, rfl, ran_nsq hn hle⟩ fun H1 e1 => ?_
      refine q_dropT (ds := [.int n]) (ea_cons (ev_var rfl) ea_nil) ⟨v, _, rfl, hv, rfl⟩ ⟨n, rfl, hn, hle⟩ fun H2 e2 => ?_
      exact q_dropXT (ds := [e]) (r := false) (ea_cons (ev_var rfl) ea_nil) ⟨v2, _, rfl, hv2.mono (e1.trans e2), rfl⟩ ⟨e, rfl, rfl, hb⟩ fun H3 e3 => q H3 ((e1.trans e2).trans e3)
theorem okB_times (T : Txt K mg) : FnOk P w K mg base (CX P w) 5 T.a_times T.d_times ["number", "one", "other"] (SpBad T.cN T.cR BPairs) := by
  have GB_check_number := okT_check_number (P := P) (w := w) (base := base) T
  have GB_check_root := okT_check_root (P := P) (w := w) (base := base) T
  have GB_check_pair := okT_check_pair (P := P) (w := w) (base := base) T
  refine T.F_times.okX sc_times (fun vs H Q E h => ?_) (fun cdv A outer s H vs Q E hr h => ?_)
  · obtain ⟨ds, r, hA, ⟨d, e, f, rfl, _⟩, _⟩ := h; rw [hA.len]; rfl
  · obtain ⟨ds, r, hA, ⟨d, e, f, rfl, hb⟩, q⟩ := h
    obtain ⟨v, _, rfl, hv, v2, _, rfl, hv2, v3, _, rfl, hv3, rfl⟩ := hA
    refine ⟨_, 
      (pss_cons (ps_expr (pe_callS GB_check_number (hr.mono (by decide)) (by rfl) T.g_check_number T.F_check_number.kp T.b_check_number (passAt (takes_of rfl rfl rfl rfl)) (pa_cons (pv 0) pa_nil))) 
      (pss_cons (ps_expr (pe_callS GB_check_root hr (by rfl) T.g_check_root T.F_check_root.kp T.b_check_root (passAt (takes_of rfl rfl rfl rfl)) (pa_cons (pv 0) pa_nil))) 
      (pss_cons (ps_expr (pe_callS GB_check_pair (hr.mono (by decide)) (by rfl) T.g_check_pair T.F_check_pair.kp T.b_check_pair (passAt (takes_of rfl rfl rfl rfl)) (pa_cons (pv 1) pa_nil))) 
      (pss_cons (ps_expr (pe_callS GB_check_pair (hr.mono (by decide)) (by rfl) T.g_check_pair T.F_check_pair.kp T.b_check_pair (passAt (takes_of rfl rfl rfl rfl)) (pa_cons (pv 2) pa_nil))) 
      (pss_cons (ps_asg (pv 1) (pg_tup rfl (pgs_cons (pg_name (i := 3) sc_times.nd rfl (.inl rfl)) (pgs_cons (pg_name (i := 4) sc_times.nd rfl (.inl rfl)) pgs_nil)))) 
      (pss_cons (ps_asg (pv 2) (pg_tup rfl (pgs_cons (pg_name (i := 5) sc_times.nd rfl (.inl rfl)) (pgs_cons (pg_name (i := 6) sc_times.nd rfl (.inl rfl)) pgs_nil)))) 
      (pss_one (ps_ret (pe_tup (pa_cons (pe_op op_add (pe_op op_mulA (pv 3) (pv 5)) (pe_op op_mulA (pe_op op_mulA (pv 0) (pv 4)) (pv 6))) (pa_cons (pe_op op_add (pe_op op_mulA (pv 3) (pv 6)) (pe_op op_mulA (pv 4) (pv 5))) pa_nil))))))))))), ?_⟩
    rcases hb with ⟨rfl, hb⟩ | ⟨rfl, n, rfl, hs⟩ | ⟨rfl, ⟨n, rfl, hn, hle⟩, hb⟩
    · exact q_dropXT (ds := [d]) (r := false) (ea_cons (ev_var rfl) ea_nil) ⟨v, _, rfl, hv, rfl⟩ ⟨d, rfl, rfl, hb⟩ fun H1 e1 => q H1 e1
    · refine q_dropT (ds := [.int n]) (ea_cons (ev_var rfl) ea_nil) ⟨v, _, rfl, hv, rfl⟩ ⟨n, rfl, ran_sq hs⟩ fun H1 e1 => ?_
      exact q_dropXT (ds := [.int n]) (r := true) (ea_cons (ev_var rfl) ea_nil) ⟨v, _, rfl, hv, rfl⟩ ⟨n, rfl, rfl, hs⟩ fun H2 e2 => q H2 (e1.trans e2)
    · refine q_dropT (ds := [.int n]) (ea_cons (ev_var rfl) ea_nil) ⟨v, _, rfl, hv, rfl⟩ ⟨n, rfl, ran_nsq hn hle⟩ fun H1 e1 => ?_
      refine q_dropT (ds := [.int n]) (ea_cons (ev_var rfl) ea_nil) ⟨v, _, rfl, hv, rfl⟩ ⟨n, rfl, hn, hle⟩ fun H2 e2 => ?_
      rcases hb with hb | ⟨he, hb⟩
      · exact q_dropXT (ds := [e]) (r := false) (ea_cons (ev_var rfl) ea_nil) ⟨v2, _, rfl, hv2.mono (e1.trans e2), rfl⟩ ⟨e, rfl, rfl, hb⟩ fun H3 e3 => q H3 ((e1.trans e2).trans e3)
      · refine q_dropT (ds := [e]) (ea_cons (ev_var rfl) ea_nil) ⟨v2, _, rfl, hv2.mono (e1.trans e2), rfl⟩ ⟨e, rfl, he⟩ fun H3 e3 => ?_
        exact q_dropXT (ds := [f]) (r := false) (ea_cons (ev_var rfl) ea_nil) ⟨v3, _, rfl, hv3.mono ((e1.trans e2).trans e3), rfl⟩ ⟨f, rfl, rfl, hb⟩ fun H4 e4 => q H4 (((e1.trans e2).trans e3).trans e4)

/-! the class of an error -/
def word : Option Bool → Str
  | none => ""
  | some true => "root"
  | some false => "number"
def Err (cN cR : Addr) (H : Hp) : Option Bool → V → Prop
  | none, v => v = .non
  | some r, v => ∃ a, v = .ref a ∧ H a = some (ExI (.ref (if r = true then cR else cN)) a)
def sp_law_name (cN cR : Addr) (K : PySem.W.Frag) : Sp := fun vs H Q _ => ∃ o v, vs = [v] ∧ Err cN cR H o v ∧ RetV (.str (word o)) H Q
theorem ok_law_name (T : Txt K mg) : FnOk P w K mg base CX0 1 T.a_law_name T.d_law_name ["_law_error"] (sp_law_name T.cN T.cR K) := by
  refine T.F_law_name.ok sc_law_name (fun vs H Q E h => ?_) (fun cdv A outer s H vs Q E hr h => ?_)
  · obtain ⟨o, v, rfl, _⟩ := h; rfl
  · obtain ⟨o, v, rfl, he, q⟩ := h
    refine ⟨_, 
      (pss_cons (ps_set (i := 1) sc_law_name.nd rfl (.inl rfl) (pe_lst (pa_cons (pe_callB (id := "isinstance") (kisw (K := K) rfl) (by rfl) T.z_isinstance (by decide +kernel) (pa_cons (pv 0) (pa_cons (pe_glob (by rfl) T.g_NoNumber rel_ref) pa_nil))) (pa_cons (pe_callB (id := "isinstance") (kisw (K := K) rfl) (by rfl) T.z_isinstance (by decide +kernel) (pa_cons (pv 0) (pa_cons (pe_glob (by rfl) T.g_NoRoot rel_ref) pa_nil))) pa_nil)))) 
      (pss_cons (ps_if (pt_cmpR op_isN (pv 0) pe_non (nomark _)) (
        (pss_one (ps_ret pe_str))) (pss_nil)) 
      (pss_cons (ps_if (PW.pt (pw_or (pt_cmpR op_ne (pe_bm PySem.F.plainAttrs_list PySem.F.slot_list_count PySem.F.type_list_count (kcntF (K := K) rfl) (pv 1) (pa_cons pe_bl pa_nil)) pe_int (nomark _)) (pw_or1 (pt_not (pt_val (pe_callB (id := "isinstance") (kisw (K := K) rfl) (by rfl) T.z_isinstance (by decide +kernel) (pa_cons (pv 0) (pa_cons (pe_bltn (v := .ty "ValueError") (u := .type "ValueError") (by rfl) T.z_ValueError (by decide +kernel) rfl) pa_nil)))))))) (
        (pss_one (ps_ret pe_str))) (pss_nil)) 
      (pss_one (ps_ret (pe_ix (kix_list (K := K) rfl) (pe_lst (pa_cons pe_str (pa_cons pe_str pa_nil))) (pe_bm PySem.F.plainAttrs_list PySem.F.slot_list_index PySem.F.type_list_index (kidxF (K := K) rfl) (pv 1) (pa_cons pe_bl pa_nil)) (fun _ _ => rfl))))))), ?_⟩
    have cf := T.cf
    cases o with
    | none =>
      cases (show v = .non from he)
      refine q_asgL (xs := [.bl false, .bl false]) (el_lst (ea_cons (ev_isO (ev_var rfl) (fun _ _ => .base .non) (.own _) cf.i0N) (ea_cons (ev_isO (ev_var rfl) (fun _ _ => .base .non) (.own _) cf.i0R) ea_nil)) (by decide)) fun p H1 np e1 hp => ?_
      refine q_when (b := true) (et_is (et_test (ev_op (ev_var rfl) ev_c rv_isN)) rfl) (fun _ H2 e2 => ?_) (fun z => nomatch z)
      exact s_ret ev_c fun H3 e3 => q.go ((e1.trans e2).trans e3)
    | some r =>
      obtain ⟨a, rfl, ha⟩ := he
      cases r with
      | false =>
        have ha : H a = some (ExI (.ref T.cN) a) := ha
        refine q_asgL (xs := [.bl true, .bl false]) (el_lst (ea_cons (ev_isE (ev_var rfl) ha cf.CN (.own _) cf.iNN) (ea_cons (ev_isE (ev_var rfl) ha cf.CN (.own _) cf.iNR) ea_nil)) (by decide)) fun p H1 np e1 hp => ?_
        refine q_when (b := false) (et_is (et_test (ev_op (ev_var rfl) ev_c rv_isN)) rfl) (fun z => nomatch z) (fun _ H2 e2 => ?_)
        refine q_when (b := false) (et_is (et_or (et_test (ev_neI (ev_cntF (n := 1) (ev_var rfl) (e2 _ _ hp) ev_c rfl rfl rfl) ev_c)) fun _ => et_not (et_test (ev_isE (ev_var rfl) (e2 _ _ (e1 _ _ ha)) cf.CN (.ty _) cf.iNV))) rfl) (fun z => nomatch z) (fun _ H3 e3 => ?_)
        exact s_ret (ev_menu (n := 0) (vs := [.str "number", .str "root"]) (ea_cons ev_c (ea_cons ev_c ea_nil)) (by decide) (ev_idxF (n := 0) (z := .bl true) (ev_var rfl) (e3 _ _ (e2 _ _ hp)) ev_c rfl rfl rfl rfl (fun m _ h => absurd h (by omega))) rfl rfl) fun H4 e4 => q.go (((e1.trans e2).trans e3).trans e4)
      | true =>
        have ha : H a = some (ExI (.ref T.cR) a) := ha
        refine q_asgL (xs := [.bl false, .bl true]) (el_lst (ea_cons (ev_isE (ev_var rfl) ha cf.CR (.own _) cf.iRN) (ea_cons (ev_isE (ev_var rfl) ha cf.CR (.own _) cf.iRR) ea_nil)) (by decide)) fun p H1 np e1 hp => ?_
        refine q_when (b := false) (et_is (et_test (ev_op (ev_var rfl) ev_c rv_isN)) rfl) (fun z => nomatch z) (fun _ H2 e2 => ?_)
        refine q_when (b := false) (et_is (et_or (et_test (ev_neI (ev_cntF (n := 1) (ev_var rfl) (e2 _ _ hp) ev_c rfl rfl rfl) ev_c)) fun _ => et_not (et_test (ev_isE (ev_var rfl) (e2 _ _ (e1 _ _ ha)) cf.CR (.ty _) cf.iRV))) rfl) (fun z => nomatch z) (fun _ H3 e3 => ?_)
        exact s_ret (ev_menu (n := 1) (vs := [.str "number", .str "root"]) (ea_cons ev_c (ea_cons ev_c ea_nil)) (by decide) (ev_idxF (n := 1) (z := .bl true) (ev_var rfl) (e3 _ _ (e2 _ _ hp)) ev_c rfl rfl rfl rfl (fun m z' h hm => by
          have : m = 0 := by omega
          subst this
          cases hm
          rfl)) rfl rfl) fun H4 e4 => q.go (((e1.trans e2).trans e3).trans e4)
/-! the ten functions, asked -/
def goodAt : Nat → D → D → D → Prop
  | 0, a, _, _ => GRoot [a]
  | 1, a, _, _ => GRoot [a]
  | 2, a, _, _ => GNum [a]
  | 3, a, _, _ => GNum [a]
  | 4, a, _, _ => GNum [a]
  | 5, a, b, _ => GMany 200 [a, b]
  | 6, a, b, _ => GMany 20 [a, b]
  | 7, a, b, _ => GTold [a, b]
  | 8, a, b, _ => GPair [a, b]
  | 9, a, b, c => GPairs [a, b, c]
  | _, _, _, _ => False
def badAt : Nat → D → D → D → Bool → Prop
  | 0, a, _, _, r => BRoot [a] r
  | 1, a, _, _, r => BRoot [a] r
  | 2, a, _, _, r => BNum [a] r
  | 3, a, _, _, r => BNum [a] r
  | 4, a, _, _, r => BNum [a] r
  | 5, a, b, _, r => BMany 200 [a, b] r
  | 6, a, b, _, r => BMany 20 [a, b] r
  | 7, a, b, _, r => BTold [a, b] r
  | 8, a, b, _, r => BPair [a, b] r
  | 9, a, b, c, r => BPairs [a, b, c] r
  | _, _, _, _, _ => False
def sp_askG (K : PySem.W.Frag) : Sp := fun vs H Q _ => ∃ (k : Nat) (a b c : D) (us : List V), vs = .int (k : Int) :: us ∧ HasA H [a, b, c] us ∧ goodAt k a b c ∧ ∀ H1, Ex H H1 → Q .non H1
def sp_askB (cN cR : Addr) (K : PySem.W.Frag) : Sp := fun vs H _ E => ∃ (k : Nat) (a b c : D) (r : Bool) (us : List V), vs = .int (k : Int) :: us ∧ HasA H [a, b, c] us ∧ badAt k a b c r ∧ ∀ H1, Ex H H1 → E (.ref (if r = true then cR else cN)) none H1
theorem okG_law_asked (T : Txt K mg) : FnOk P w K mg base CX0 9 T.a_law_asked T.d_law_asked ["_law_which", "_law_number_here", "_law_second", "_law_third"] (sp_askG K) := by
  have G_whole_root := ok_whole_root (P := P) (w := w) (base := base) T
  have G_is_square := ok_is_square (P := P) (w := w) (base := base) T
  have G_ladder := ok_ladder (P := P) (w := w) (base := base) T
  have G_least_one := ok_least_one (P := P) (w := w) (base := base) T
  have G_least_less_one := ok_least_less_one (P := P) (w := w) (base := base) T
  have G_fractions := ok_fractions (P := P) (w := w) (base := base) T
  have G_ones := ok_ones (P := P) (w := w) (base := base) T
  have G_reach := ok_reach (P := P) (w := w) (base := base) T
  have G_worth := ok_worth (P := P) (w := w) (base := base) T
  have G_times := ok_times (P := P) (w := w) (base := base) T
  refine T.F_law_asked.ok sc_law_asked (fun vs H Q E h => ?_) (fun cdv A outer s H vs Q E hr h => ?_)
  · obtain ⟨k, a, b, c, us, rfl, hu, _⟩ := h
    show us.length + 1 = 4
    rw [hu.len]; rfl
  · obtain ⟨k, a, b, c, us, rfl, ⟨v1, _, rfl, h1, v2, _, rfl, h2, v3, _, rfl, h3, rfl⟩, hg, q⟩ := h
    refine ⟨_, 
      (pss_one (ps_if (pt_cmpR op_eq (pv 0) pe_int (nomark _)) (
        (pss_one (ps_expr (pe_call G_whole_root (hr.mono (by decide)) (by rfl) T.g_whole_root T.F_whole_root.kp T.b_whole_root .nil pass0 (pa_cons (pv 1) pa_nil))))) (
        (pss_one (ps_if (pt_cmpR op_eq (pv 0) pe_int (nomark _)) (
          (pss_one (ps_expr (pe_call G_is_square (hr.mono (by decide)) (by rfl) T.g_is_square T.F_is_square.kp T.b_is_square .nil pass0 (pa_cons (pv 1) pa_nil))))) (
          (pss_one (ps_if (pt_cmpR op_eq (pv 0) pe_int (nomark _)) (
            (pss_one (ps_expr (pe_call G_ladder (hr.mono (by decide)) (by rfl) T.g_ladder T.F_ladder.kp T.b_ladder .nil pass0 (pa_cons (pv 1) pa_nil))))) (
            (pss_one (ps_if (pt_cmpR op_eq (pv 0) pe_int (nomark _)) (
              (pss_one (ps_expr (pe_call G_least_one (hr.mono (by decide)) (by rfl) T.g_least_one T.F_least_one.kp T.b_least_one .nil pass0 (pa_cons (pv 1) pa_nil))))) (
              (pss_one (ps_if (pt_cmpR op_eq (pv 0) pe_int (nomark _)) (
                (pss_one (ps_expr (pe_call G_least_less_one (hr.mono (by decide)) (by rfl) T.g_least_less_one T.F_least_less_one.kp T.b_least_less_one .nil pass0 (pa_cons (pv 1) pa_nil))))) (
                (pss_one (ps_if (pt_cmpR op_eq (pv 0) pe_int (nomark _)) (
                  (pss_one (ps_expr (pe_call G_fractions (hr.mono (by decide)) (by rfl) T.g_fractions T.F_fractions.kp T.b_fractions .nil pass0 (pa_cons (pv 1) (pa_cons (pv 2) pa_nil)))))) (
                  (pss_one (ps_if (pt_cmpR op_eq (pv 0) pe_int (nomark _)) (
                    (pss_one (ps_expr (pe_call G_ones hr (by rfl) T.g_ones T.F_ones.kp T.b_ones .nil pass0 (pa_cons (pv 1) (pa_cons (pv 2) pa_nil)))))) (
                    (pss_one (ps_if (pt_cmpR op_eq (pv 0) pe_int (nomark _)) (
                      (pss_one (ps_expr (pe_call G_reach (hr.mono (by decide)) (by rfl) T.g_reach T.F_reach.kp T.b_reach .nil pass0 (pa_cons (pv 1) (pa_cons (pv 2) pa_nil)))))) (
                      (pss_one (ps_if (pt_cmpR op_eq (pv 0) pe_int (nomark _)) (
                        (pss_one (ps_expr (pe_call G_worth (hr.mono (by decide)) (by rfl) T.g_worth T.F_worth.kp T.b_worth .nil pass0 (pa_cons (pv 1) (pa_cons (pv 2) pa_nil)))))) (
                        (pss_one (ps_expr (pe_call G_times (hr.mono (by decide)) (by rfl) T.g_times T.F_times.kp T.b_times .nil pass0 (pa_cons (pv 1) (pa_cons (pv 2) (pa_cons (pv 3) pa_nil))))))))))))))))))))))))))))))))), ?_⟩
    match k, hg with
    | 0, hg =>
      refine s_if (b := true) (et_is (et_test (ev_eqI (ev_var rfl) ev_c)) (by decide)) (fun _ H1 e1 => ?_) (fun z => nomatch z)
      have ex := e1
      exact s_dropOk (ds := [a]) (ea_cons (ev_var rfl) ea_nil) ⟨v1, _, rfl, h1.mono ex, rfl⟩ hg fun H' e' => q H' (ex.trans e')
    | 1, hg =>
      refine s_if (b := false) (et_is (et_test (ev_eqI (ev_var rfl) ev_c)) (by decide)) (fun z => nomatch z) (fun _ H1 e1 => ?_)
      refine s_if (b := true) (et_is (et_test (ev_eqI (ev_var rfl) ev_c)) (by decide)) (fun _ H2 e2 => ?_) (fun z => nomatch z)
      have ex := (e1).trans e2
      exact s_dropOk (ds := [a]) (ea_cons (ev_var rfl) ea_nil) ⟨v1, _, rfl, h1.mono ex, rfl⟩ hg fun H' e' => q H' (ex.trans e')
    | 2, hg =>
      refine s_if (b := false) (et_is (et_test (ev_eqI (ev_var rfl) ev_c)) (by decide)) (fun z => nomatch z) (fun _ H1 e1 => ?_)
      refine s_if (b := false) (et_is (et_test (ev_eqI (ev_var rfl) ev_c)) (by decide)) (fun z => nomatch z) (fun _ H2 e2 => ?_)
      refine s_if (b := true) (et_is (et_test (ev_eqI (ev_var rfl) ev_c)) (by decide)) (fun _ H3 e3 => ?_) (fun z => nomatch z)
      have ex := ((e1).trans e2).trans e3
      exact s_dropOk (ds := [a]) (ea_cons (ev_var rfl) ea_nil) ⟨v1, _, rfl, h1.mono ex, rfl⟩ hg fun H' e' => q H' (ex.trans e')
    | 3, hg =>
      refine s_if (b := false) (et_is (et_test (ev_eqI (ev_var rfl) ev_c)) (by decide)) (fun z => nomatch z) (fun _ H1 e1 => ?_)
      refine s_if (b := false) (et_is (et_test (ev_eqI (ev_var rfl) ev_c)) (by decide)) (fun z => nomatch z) (fun _ H2 e2 => ?_)
      refine s_if (b := false) (et_is (et_test (ev_eqI (ev_var rfl) ev_c)) (by decide)) (fun z => nomatch z) (fun _ H3 e3 => ?_)
      refine s_if (b := true) (et_is (et_test (ev_eqI (ev_var rfl) ev_c)) (by decide)) (fun _ H4 e4 => ?_) (fun z => nomatch z)
      have ex := (((e1).trans e2).trans e3).trans e4
      exact s_dropOk (ds := [a]) (ea_cons (ev_var rfl) ea_nil) ⟨v1, _, rfl, h1.mono ex, rfl⟩ hg fun H' e' => q H' (ex.trans e')
    | 4, hg =>
      refine s_if (b := false) (et_is (et_test (ev_eqI (ev_var rfl) ev_c)) (by decide)) (fun z => nomatch z) (fun _ H1 e1 => ?_)
      refine s_if (b := false) (et_is (et_test (ev_eqI (ev_var rfl) ev_c)) (by decide)) (fun z => nomatch z) (fun _ H2 e2 => ?_)
      refine s_if (b := false) (et_is (et_test (ev_eqI (ev_var rfl) ev_c)) (by decide)) (fun z => nomatch z) (fun _ H3 e3 => ?_)
      refine s_if (b := false) (et_is (et_test (ev_eqI (ev_var rfl) ev_c)) (by decide)) (fun z => nomatch z) (fun _ H4 e4 => ?_)
      refine s_if (b := true) (et_is (et_test (ev_eqI (ev_var rfl) ev_c)) (by decide)) (fun _ H5 e5 => ?_) (fun z => nomatch z)
      have ex := ((((e1).trans e2).trans e3).trans e4).trans e5
      exact s_dropOk (ds := [a]) (ea_cons (ev_var rfl) ea_nil) ⟨v1, _, rfl, h1.mono ex, rfl⟩ hg fun H' e' => q H' (ex.trans e')
    | 5, hg =>
      refine s_if (b := false) (et_is (et_test (ev_eqI (ev_var rfl) ev_c)) (by decide)) (fun z => nomatch z) (fun _ H1 e1 => ?_)
      refine s_if (b := false) (et_is (et_test (ev_eqI (ev_var rfl) ev_c)) (by decide)) (fun z => nomatch z) (fun _ H2 e2 => ?_)
      refine s_if (b := false) (et_is (et_test (ev_eqI (ev_var rfl) ev_c)) (by decide)) (fun z => nomatch z) (fun _ H3 e3 => ?_)
      refine s_if (b := false) (et_is (et_test (ev_eqI (ev_var rfl) ev_c)) (by decide)) (fun z => nomatch z) (fun _ H4 e4 => ?_)
      refine s_if (b := false) (et_is (et_test (ev_eqI (ev_var rfl) ev_c)) (by decide)) (fun z => nomatch z) (fun _ H5 e5 => ?_)
      refine s_if (b := true) (et_is (et_test (ev_eqI (ev_var rfl) ev_c)) (by decide)) (fun _ H6 e6 => ?_) (fun z => nomatch z)
      have ex := (((((e1).trans e2).trans e3).trans e4).trans e5).trans e6
      exact s_dropOk (ds := [a, b]) (ea_cons (ev_var rfl) (ea_cons (ev_var rfl) ea_nil)) ⟨v1, _, rfl, h1.mono ex, ⟨v2, _, rfl, h2.mono ex, rfl⟩⟩ hg fun H' e' => q H' (ex.trans e')
    | 6, hg =>
      refine s_if (b := false) (et_is (et_test (ev_eqI (ev_var rfl) ev_c)) (by decide)) (fun z => nomatch z) (fun _ H1 e1 => ?_)
      refine s_if (b := false) (et_is (et_test (ev_eqI (ev_var rfl) ev_c)) (by decide)) (fun z => nomatch z) (fun _ H2 e2 => ?_)
      refine s_if (b := false) (et_is (et_test (ev_eqI (ev_var rfl) ev_c)) (by decide)) (fun z => nomatch z) (fun _ H3 e3 => ?_)
      refine s_if (b := false) (et_is (et_test (ev_eqI (ev_var rfl) ev_c)) (by decide)) (fun z => nomatch z) (fun _ H4 e4 => ?_)
      refine s_if (b := false) (et_is (et_test (ev_eqI (ev_var rfl) ev_c)) (by decide)) (fun z => nomatch z) (fun _ H5 e5 => ?_)
      refine s_if (b := false) (et_is (et_test (ev_eqI (ev_var rfl) ev_c)) (by decide)) (fun z => nomatch z) (fun _ H6 e6 => ?_)
      refine s_if (b := true) (et_is (et_test (ev_eqI (ev_var rfl) ev_c)) (by decide)) (fun _ H7 e7 => ?_) (fun z => nomatch z)
      have ex := ((((((e1).trans e2).trans e3).trans e4).trans e5).trans e6).trans e7
      exact s_dropOk (ds := [a, b]) (ea_cons (ev_var rfl) (ea_cons (ev_var rfl) ea_nil)) ⟨v1, _, rfl, h1.mono ex, ⟨v2, _, rfl, h2.mono ex, rfl⟩⟩ hg fun H' e' => q H' (ex.trans e')
    | 7, hg =>
      refine s_if (b := false) (et_is (et_test (ev_eqI (ev_var rfl) ev_c)) (by decide)) (fun z => nomatch z) (fun _ H1 e1 => ?_)
      refine s_if (b := false) (et_is (et_test (ev_eqI (ev_var rfl) ev_c)) (by decide)) (fun z => nomatch z) (fun _ H2 e2 => ?_)
      refine s_if (b := false) (et_is (et_test (ev_eqI (ev_var rfl) ev_c)) (by decide)) (fun z => nomatch z) (fun _ H3 e3 => ?_)
      refine s_if (b := false) (et_is (et_test (ev_eqI (ev_var rfl) ev_c)) (by decide)) (fun z => nomatch z) (fun _ H4 e4 => ?_)
      refine s_if (b := false) (et_is (et_test (ev_eqI (ev_var rfl) ev_c)) (by decide)) (fun z => nomatch z) (fun _ H5 e5 => ?_)
      refine s_if (b := false) (et_is (et_test (ev_eqI (ev_var rfl) ev_c)) (by decide)) (fun z => nomatch z) (fun _ H6 e6 => ?_)
      refine s_if (b := false) (et_is (et_test (ev_eqI (ev_var rfl) ev_c)) (by decide)) (fun z => nomatch z) (fun _ H7 e7 => ?_)
      refine s_if (b := true) (et_is (et_test (ev_eqI (ev_var rfl) ev_c)) (by decide)) (fun _ H8 e8 => ?_) (fun z => nomatch z)
      have ex := (((((((e1).trans e2).trans e3).trans e4).trans e5).trans e6).trans e7).trans e8
      exact s_dropOk (ds := [a, b]) (ea_cons (ev_var rfl) (ea_cons (ev_var rfl) ea_nil)) ⟨v1, _, rfl, h1.mono ex, ⟨v2, _, rfl, h2.mono ex, rfl⟩⟩ hg fun H' e' => q H' (ex.trans e')
    | 8, hg =>
      refine s_if (b := false) (et_is (et_test (ev_eqI (ev_var rfl) ev_c)) (by decide)) (fun z => nomatch z) (fun _ H1 e1 => ?_)
      refine s_if (b := false) (et_is (et_test (ev_eqI (ev_var rfl) ev_c)) (by decide)) (fun z => nomatch z) (fun _ H2 e2 => ?_)
      refine s_if (b := false) (et_is (et_test (ev_eqI (ev_var rfl) ev_c)) (by decide)) (fun z => nomatch z) (fun _ H3 e3 => ?_)
      refine s_if (b := false) (et_is (et_test (ev_eqI (ev_var rfl) ev_c)) (by decide)) (fun z => nomatch z) (fun _ H4 e4 => ?_)
      refine s_if (b := false) (et_is (et_test (ev_eqI (ev_var rfl) ev_c)) (by decide)) (fun z => nomatch z) (fun _ H5 e5 => ?_)
      refine s_if (b := false) (et_is (et_test (ev_eqI (ev_var rfl) ev_c)) (by decide)) (fun z => nomatch z) (fun _ H6 e6 => ?_)
      refine s_if (b := false) (et_is (et_test (ev_eqI (ev_var rfl) ev_c)) (by decide)) (fun z => nomatch z) (fun _ H7 e7 => ?_)
      refine s_if (b := false) (et_is (et_test (ev_eqI (ev_var rfl) ev_c)) (by decide)) (fun z => nomatch z) (fun _ H8 e8 => ?_)
      refine s_if (b := true) (et_is (et_test (ev_eqI (ev_var rfl) ev_c)) (by decide)) (fun _ H9 e9 => ?_) (fun z => nomatch z)
      have ex := ((((((((e1).trans e2).trans e3).trans e4).trans e5).trans e6).trans e7).trans e8).trans e9
      exact s_dropOk (ds := [a, b]) (ea_cons (ev_var rfl) (ea_cons (ev_var rfl) ea_nil)) ⟨v1, _, rfl, h1.mono ex, ⟨v2, _, rfl, h2.mono ex, rfl⟩⟩ hg fun H' e' => q H' (ex.trans e')
    | 9, hg =>
      refine s_if (b := false) (et_is (et_test (ev_eqI (ev_var rfl) ev_c)) (by decide)) (fun z => nomatch z) (fun _ H1 e1 => ?_)
      refine s_if (b := false) (et_is (et_test (ev_eqI (ev_var rfl) ev_c)) (by decide)) (fun z => nomatch z) (fun _ H2 e2 => ?_)
      refine s_if (b := false) (et_is (et_test (ev_eqI (ev_var rfl) ev_c)) (by decide)) (fun z => nomatch z) (fun _ H3 e3 => ?_)
      refine s_if (b := false) (et_is (et_test (ev_eqI (ev_var rfl) ev_c)) (by decide)) (fun z => nomatch z) (fun _ H4 e4 => ?_)
      refine s_if (b := false) (et_is (et_test (ev_eqI (ev_var rfl) ev_c)) (by decide)) (fun z => nomatch z) (fun _ H5 e5 => ?_)
      refine s_if (b := false) (et_is (et_test (ev_eqI (ev_var rfl) ev_c)) (by decide)) (fun z => nomatch z) (fun _ H6 e6 => ?_)
      refine s_if (b := false) (et_is (et_test (ev_eqI (ev_var rfl) ev_c)) (by decide)) (fun z => nomatch z) (fun _ H7 e7 => ?_)
      refine s_if (b := false) (et_is (et_test (ev_eqI (ev_var rfl) ev_c)) (by decide)) (fun z => nomatch z) (fun _ H8 e8 => ?_)
      refine s_if (b := false) (et_is (et_test (ev_eqI (ev_var rfl) ev_c)) (by decide)) (fun z => nomatch z) (fun _ H9 e9 => ?_)
      have ex := ((((((((e1).trans e2).trans e3).trans e4).trans e5).trans e6).trans e7).trans e8).trans e9
      exact s_dropOk (ds := [a, b, c]) (ea_cons (ev_var rfl) (ea_cons (ev_var rfl) (ea_cons (ev_var rfl) ea_nil))) ⟨v1, _, rfl, h1.mono ex, ⟨v2, _, rfl, h2.mono ex, ⟨v3, _, rfl, h3.mono ex, rfl⟩⟩⟩ hg fun H' e' => q H' (ex.trans e')
theorem okB_law_asked (T : Txt K mg) : FnOk P w K mg base (CX P w) 9 T.a_law_asked T.d_law_asked ["_law_which", "_law_number_here", "_law_second", "_law_third"] (sp_askB T.cN T.cR K) := by
  have GB_whole_root := okB_whole_root (P := P) (w := w) (base := base) T
  have GB_is_square := okB_is_square (P := P) (w := w) (base := base) T
  have GB_ladder := okB_ladder (P := P) (w := w) (base := base) T
  have GB_least_one := okB_least_one (P := P) (w := w) (base := base) T
  have GB_least_less_one := okB_least_less_one (P := P) (w := w) (base := base) T
  have GB_fractions := okB_fractions (P := P) (w := w) (base := base) T
  have GB_ones := okB_ones (P := P) (w := w) (base := base) T
  have GB_reach := okB_reach (P := P) (w := w) (base := base) T
  have GB_worth := okB_worth (P := P) (w := w) (base := base) T
  have GB_times := okB_times (P := P) (w := w) (base := base) T
  refine T.F_law_asked.okX sc_law_asked (fun vs H Q E h => ?_) (fun cdv A outer s H vs Q E hr h => ?_)
  · obtain ⟨k, a, b, c, r, us, rfl, hu, _⟩ := h
    show us.length + 1 = 4
    rw [hu.len]; rfl
  · obtain ⟨k, a, b, c, r, us, rfl, ⟨v1, _, rfl, h1, v2, _, rfl, h2, v3, _, rfl, h3, rfl⟩, hg, q⟩ := h
    refine ⟨_, 
      (pss_one (ps_if (pt_cmpR op_eq (pv 0) pe_int (nomark _)) (
        (pss_one (ps_expr (pe_callS GB_whole_root (hr.mono (by decide)) (by rfl) T.g_whole_root T.F_whole_root.kp T.b_whole_root (passAt (takes_of rfl rfl rfl rfl)) (pa_cons (pv 1) pa_nil))))) (
        (pss_one (ps_if (pt_cmpR op_eq (pv 0) pe_int (nomark _)) (
          (pss_one (ps_expr (pe_callS GB_is_square (hr.mono (by decide)) (by rfl) T.g_is_square T.F_is_square.kp T.b_is_square (passAt (takes_of rfl rfl rfl rfl)) (pa_cons (pv 1) pa_nil))))) (
          (pss_one (ps_if (pt_cmpR op_eq (pv 0) pe_int (nomark _)) (
            (pss_one (ps_expr (pe_callS GB_ladder (hr.mono (by decide)) (by rfl) T.g_ladder T.F_ladder.kp T.b_ladder (passAt (takes_of rfl rfl rfl rfl)) (pa_cons (pv 1) pa_nil))))) (
            (pss_one (ps_if (pt_cmpR op_eq (pv 0) pe_int (nomark _)) (
              (pss_one (ps_expr (pe_callS GB_least_one (hr.mono (by decide)) (by rfl) T.g_least_one T.F_least_one.kp T.b_least_one (passAt (takes_of rfl rfl rfl rfl)) (pa_cons (pv 1) pa_nil))))) (
              (pss_one (ps_if (pt_cmpR op_eq (pv 0) pe_int (nomark _)) (
                (pss_one (ps_expr (pe_callS GB_least_less_one (hr.mono (by decide)) (by rfl) T.g_least_less_one T.F_least_less_one.kp T.b_least_less_one (passAt (takes_of rfl rfl rfl rfl)) (pa_cons (pv 1) pa_nil))))) (
                (pss_one (ps_if (pt_cmpR op_eq (pv 0) pe_int (nomark _)) (
                  (pss_one (ps_expr (pe_callS GB_fractions (hr.mono (by decide)) (by rfl) T.g_fractions T.F_fractions.kp T.b_fractions (passAt (takes_of rfl rfl rfl rfl)) (pa_cons (pv 1) (pa_cons (pv 2) pa_nil)))))) (
                  (pss_one (ps_if (pt_cmpR op_eq (pv 0) pe_int (nomark _)) (
                    (pss_one (ps_expr (pe_callS GB_ones hr (by rfl) T.g_ones T.F_ones.kp T.b_ones (passAt (takes_of rfl rfl rfl rfl)) (pa_cons (pv 1) (pa_cons (pv 2) pa_nil)))))) (
                    (pss_one (ps_if (pt_cmpR op_eq (pv 0) pe_int (nomark _)) (
                      (pss_one (ps_expr (pe_callS GB_reach (hr.mono (by decide)) (by rfl) T.g_reach T.F_reach.kp T.b_reach (passAt (takes_of rfl rfl rfl rfl)) (pa_cons (pv 1) (pa_cons (pv 2) pa_nil)))))) (
                      (pss_one (ps_if (pt_cmpR op_eq (pv 0) pe_int (nomark _)) (
                        (pss_one (ps_expr (pe_callS GB_worth (hr.mono (by decide)) (by rfl) T.g_worth T.F_worth.kp T.b_worth (passAt (takes_of rfl rfl rfl rfl)) (pa_cons (pv 1) (pa_cons (pv 2) pa_nil)))))) (
                        (pss_one (ps_expr (pe_callS GB_times (hr.mono (by decide)) (by rfl) T.g_times T.F_times.kp T.b_times (passAt (takes_of rfl rfl rfl rfl)) (pa_cons (pv 1) (pa_cons (pv 2) (pa_cons (pv 3) pa_nil))))))))))))))))))))))))))))))))), ?_⟩
    match k, hg with
    | 0, hg =>
      refine s_if (b := true) (et_is (et_test (ev_eqI (ev_var rfl) ev_c)) (by decide)) (fun _ H1 e1 => ?_) (fun z => nomatch z)
      have ex := e1
      exact s_dropBad (ds := [a]) (ea_cons (ev_var rfl) ea_nil) ⟨v1, _, rfl, h1.mono ex, rfl⟩ hg fun H' e' => q H' (ex.trans e')
    | 1, hg =>
      refine s_if (b := false) (et_is (et_test (ev_eqI (ev_var rfl) ev_c)) (by decide)) (fun z => nomatch z) (fun _ H1 e1 => ?_)
      refine s_if (b := true) (et_is (et_test (ev_eqI (ev_var rfl) ev_c)) (by decide)) (fun _ H2 e2 => ?_) (fun z => nomatch z)
      have ex := (e1).trans e2
      exact s_dropBad (ds := [a]) (ea_cons (ev_var rfl) ea_nil) ⟨v1, _, rfl, h1.mono ex, rfl⟩ hg fun H' e' => q H' (ex.trans e')
    | 2, hg =>
      refine s_if (b := false) (et_is (et_test (ev_eqI (ev_var rfl) ev_c)) (by decide)) (fun z => nomatch z) (fun _ H1 e1 => ?_)
      refine s_if (b := false) (et_is (et_test (ev_eqI (ev_var rfl) ev_c)) (by decide)) (fun z => nomatch z) (fun _ H2 e2 => ?_)
      refine s_if (b := true) (et_is (et_test (ev_eqI (ev_var rfl) ev_c)) (by decide)) (fun _ H3 e3 => ?_) (fun z => nomatch z)
      have ex := ((e1).trans e2).trans e3
      exact s_dropBad (ds := [a]) (ea_cons (ev_var rfl) ea_nil) ⟨v1, _, rfl, h1.mono ex, rfl⟩ hg fun H' e' => q H' (ex.trans e')
    | 3, hg =>
      refine s_if (b := false) (et_is (et_test (ev_eqI (ev_var rfl) ev_c)) (by decide)) (fun z => nomatch z) (fun _ H1 e1 => ?_)
      refine s_if (b := false) (et_is (et_test (ev_eqI (ev_var rfl) ev_c)) (by decide)) (fun z => nomatch z) (fun _ H2 e2 => ?_)
      refine s_if (b := false) (et_is (et_test (ev_eqI (ev_var rfl) ev_c)) (by decide)) (fun z => nomatch z) (fun _ H3 e3 => ?_)
      refine s_if (b := true) (et_is (et_test (ev_eqI (ev_var rfl) ev_c)) (by decide)) (fun _ H4 e4 => ?_) (fun z => nomatch z)
      have ex := (((e1).trans e2).trans e3).trans e4
      exact s_dropBad (ds := [a]) (ea_cons (ev_var rfl) ea_nil) ⟨v1, _, rfl, h1.mono ex, rfl⟩ hg fun H' e' => q H' (ex.trans e')
    | 4, hg =>
      refine s_if (b := false) (et_is (et_test (ev_eqI (ev_var rfl) ev_c)) (by decide)) (fun z => nomatch z) (fun _ H1 e1 => ?_)
      refine s_if (b := false) (et_is (et_test (ev_eqI (ev_var rfl) ev_c)) (by decide)) (fun z => nomatch z) (fun _ H2 e2 => ?_)
      refine s_if (b := false) (et_is (et_test (ev_eqI (ev_var rfl) ev_c)) (by decide)) (fun z => nomatch z) (fun _ H3 e3 => ?_)
      refine s_if (b := false) (et_is (et_test (ev_eqI (ev_var rfl) ev_c)) (by decide)) (fun z => nomatch z) (fun _ H4 e4 => ?_)
      refine s_if (b := true) (et_is (et_test (ev_eqI (ev_var rfl) ev_c)) (by decide)) (fun _ H5 e5 => ?_) (fun z => nomatch z)
      have ex := ((((e1).trans e2).trans e3).trans e4).trans e5
      exact s_dropBad (ds := [a]) (ea_cons (ev_var rfl) ea_nil) ⟨v1, _, rfl, h1.mono ex, rfl⟩ hg fun H' e' => q H' (ex.trans e')
    | 5, hg =>
      refine s_if (b := false) (et_is (et_test (ev_eqI (ev_var rfl) ev_c)) (by decide)) (fun z => nomatch z) (fun _ H1 e1 => ?_)
      refine s_if (b := false) (et_is (et_test (ev_eqI (ev_var rfl) ev_c)) (by decide)) (fun z => nomatch z) (fun _ H2 e2 => ?_)
      refine s_if (b := false) (et_is (et_test (ev_eqI (ev_var rfl) ev_c)) (by decide)) (fun z => nomatch z) (fun _ H3 e3 => ?_)
      refine s_if (b := false) (et_is (et_test (ev_eqI (ev_var rfl) ev_c)) (by decide)) (fun z => nomatch z) (fun _ H4 e4 => ?_)
      refine s_if (b := false) (et_is (et_test (ev_eqI (ev_var rfl) ev_c)) (by decide)) (fun z => nomatch z) (fun _ H5 e5 => ?_)
      refine s_if (b := true) (et_is (et_test (ev_eqI (ev_var rfl) ev_c)) (by decide)) (fun _ H6 e6 => ?_) (fun z => nomatch z)
      have ex := (((((e1).trans e2).trans e3).trans e4).trans e5).trans e6
      exact s_dropBad (ds := [a, b]) (ea_cons (ev_var rfl) (ea_cons (ev_var rfl) ea_nil)) ⟨v1, _, rfl, h1.mono ex, ⟨v2, _, rfl, h2.mono ex, rfl⟩⟩ hg fun H' e' => q H' (ex.trans e')
    | 6, hg =>
      refine s_if (b := false) (et_is (et_test (ev_eqI (ev_var rfl) ev_c)) (by decide)) (fun z => nomatch z) (fun _ H1 e1 => ?_)
      refine s_if (b := false) (et_is (et_test (ev_eqI (ev_var rfl) ev_c)) (by decide)) (fun z => nomatch z) (fun _ H2 e2 => ?_)
      refine s_if (b := false) (et_is (et_test (ev_eqI (ev_var rfl) ev_c)) (by decide)) (fun z => nomatch z) (fun _ H3 e3 => ?_)
      refine s_if (b := false) (et_is (et_test (ev_eqI (ev_var rfl) ev_c)) (by decide)) (fun z => nomatch z) (fun _ H4 e4 => ?_)
      refine s_if (b := false) (et_is (et_test (ev_eqI (ev_var rfl) ev_c)) (by decide)) (fun z => nomatch z) (fun _ H5 e5 => ?_)
      refine s_if (b := false) (et_is (et_test (ev_eqI (ev_var rfl) ev_c)) (by decide)) (fun z => nomatch z) (fun _ H6 e6 => ?_)
      refine s_if (b := true) (et_is (et_test (ev_eqI (ev_var rfl) ev_c)) (by decide)) (fun _ H7 e7 => ?_) (fun z => nomatch z)
      have ex := ((((((e1).trans e2).trans e3).trans e4).trans e5).trans e6).trans e7
      exact s_dropBad (ds := [a, b]) (ea_cons (ev_var rfl) (ea_cons (ev_var rfl) ea_nil)) ⟨v1, _, rfl, h1.mono ex, ⟨v2, _, rfl, h2.mono ex, rfl⟩⟩ hg fun H' e' => q H' (ex.trans e')
    | 7, hg =>
      refine s_if (b := false) (et_is (et_test (ev_eqI (ev_var rfl) ev_c)) (by decide)) (fun z => nomatch z) (fun _ H1 e1 => ?_)
      refine s_if (b := false) (et_is (et_test (ev_eqI (ev_var rfl) ev_c)) (by decide)) (fun z => nomatch z) (fun _ H2 e2 => ?_)
      refine s_if (b := false) (et_is (et_test (ev_eqI (ev_var rfl) ev_c)) (by decide)) (fun z => nomatch z) (fun _ H3 e3 => ?_)
      refine s_if (b := false) (et_is (et_test (ev_eqI (ev_var rfl) ev_c)) (by decide)) (fun z => nomatch z) (fun _ H4 e4 => ?_)
      refine s_if (b := false) (et_is (et_test (ev_eqI (ev_var rfl) ev_c)) (by decide)) (fun z => nomatch z) (fun _ H5 e5 => ?_)
      refine s_if (b := false) (et_is (et_test (ev_eqI (ev_var rfl) ev_c)) (by decide)) (fun z => nomatch z) (fun _ H6 e6 => ?_)
      refine s_if (b := false) (et_is (et_test (ev_eqI (ev_var rfl) ev_c)) (by decide)) (fun z => nomatch z) (fun _ H7 e7 => ?_)
      refine s_if (b := true) (et_is (et_test (ev_eqI (ev_var rfl) ev_c)) (by decide)) (fun _ H8 e8 => ?_) (fun z => nomatch z)
      have ex := (((((((e1).trans e2).trans e3).trans e4).trans e5).trans e6).trans e7).trans e8
      exact s_dropBad (ds := [a, b]) (ea_cons (ev_var rfl) (ea_cons (ev_var rfl) ea_nil)) ⟨v1, _, rfl, h1.mono ex, ⟨v2, _, rfl, h2.mono ex, rfl⟩⟩ hg fun H' e' => q H' (ex.trans e')
    | 8, hg =>
      refine s_if (b := false) (et_is (et_test (ev_eqI (ev_var rfl) ev_c)) (by decide)) (fun z => nomatch z) (fun _ H1 e1 => ?_)
      refine s_if (b := false) (et_is (et_test (ev_eqI (ev_var rfl) ev_c)) (by decide)) (fun z => nomatch z) (fun _ H2 e2 => ?_)
      refine s_if (b := false) (et_is (et_test (ev_eqI (ev_var rfl) ev_c)) (by decide)) (fun z => nomatch z) (fun _ H3 e3 => ?_)
      refine s_if (b := false) (et_is (et_test (ev_eqI (ev_var rfl) ev_c)) (by decide)) (fun z => nomatch z) (fun _ H4 e4 => ?_)
      refine s_if (b := false) (et_is (et_test (ev_eqI (ev_var rfl) ev_c)) (by decide)) (fun z => nomatch z) (fun _ H5 e5 => ?_)
      refine s_if (b := false) (et_is (et_test (ev_eqI (ev_var rfl) ev_c)) (by decide)) (fun z => nomatch z) (fun _ H6 e6 => ?_)
      refine s_if (b := false) (et_is (et_test (ev_eqI (ev_var rfl) ev_c)) (by decide)) (fun z => nomatch z) (fun _ H7 e7 => ?_)
      refine s_if (b := false) (et_is (et_test (ev_eqI (ev_var rfl) ev_c)) (by decide)) (fun z => nomatch z) (fun _ H8 e8 => ?_)
      refine s_if (b := true) (et_is (et_test (ev_eqI (ev_var rfl) ev_c)) (by decide)) (fun _ H9 e9 => ?_) (fun z => nomatch z)
      have ex := ((((((((e1).trans e2).trans e3).trans e4).trans e5).trans e6).trans e7).trans e8).trans e9
      exact s_dropBad (ds := [a, b]) (ea_cons (ev_var rfl) (ea_cons (ev_var rfl) ea_nil)) ⟨v1, _, rfl, h1.mono ex, ⟨v2, _, rfl, h2.mono ex, rfl⟩⟩ hg fun H' e' => q H' (ex.trans e')
    | 9, hg =>
      refine s_if (b := false) (et_is (et_test (ev_eqI (ev_var rfl) ev_c)) (by decide)) (fun z => nomatch z) (fun _ H1 e1 => ?_)
      refine s_if (b := false) (et_is (et_test (ev_eqI (ev_var rfl) ev_c)) (by decide)) (fun z => nomatch z) (fun _ H2 e2 => ?_)
      refine s_if (b := false) (et_is (et_test (ev_eqI (ev_var rfl) ev_c)) (by decide)) (fun z => nomatch z) (fun _ H3 e3 => ?_)
      refine s_if (b := false) (et_is (et_test (ev_eqI (ev_var rfl) ev_c)) (by decide)) (fun z => nomatch z) (fun _ H4 e4 => ?_)
      refine s_if (b := false) (et_is (et_test (ev_eqI (ev_var rfl) ev_c)) (by decide)) (fun z => nomatch z) (fun _ H5 e5 => ?_)
      refine s_if (b := false) (et_is (et_test (ev_eqI (ev_var rfl) ev_c)) (by decide)) (fun z => nomatch z) (fun _ H6 e6 => ?_)
      refine s_if (b := false) (et_is (et_test (ev_eqI (ev_var rfl) ev_c)) (by decide)) (fun z => nomatch z) (fun _ H7 e7 => ?_)
      refine s_if (b := false) (et_is (et_test (ev_eqI (ev_var rfl) ev_c)) (by decide)) (fun z => nomatch z) (fun _ H8 e8 => ?_)
      refine s_if (b := false) (et_is (et_test (ev_eqI (ev_var rfl) ev_c)) (by decide)) (fun z => nomatch z) (fun _ H9 e9 => ?_)
      have ex := ((((((((e1).trans e2).trans e3).trans e4).trans e5).trans e6).trans e7).trans e8).trans e9
      exact s_dropBad (ds := [a, b, c]) (ea_cons (ev_var rfl) (ea_cons (ev_var rfl) (ea_cons (ev_var rfl) ea_nil))) ⟨v1, _, rfl, h1.mono ex, ⟨v2, _, rfl, h2.mono ex, ⟨v3, _, rfl, h3.mono ex, rfl⟩⟩⟩ hg fun H' e' => q H' (ex.trans e')
def Ask (k : Nat) (a b c : D) : Option Bool → Prop
  | none => goodAt k a b c
  | some r => badAt k a b c r
def sp_said (K : PySem.W.Frag) : Sp := fun vs H Q _ => ∃ (k : Nat) (a b c : D) (o : Option Bool) (us : List V), vs = .int (k : Int) :: us ∧ HasA H [a, b, c] us ∧ Ask k a b c o ∧ RetV (.str (word o)) H Q
theorem s_dropX {sp : Sp} {E : L2.St → XK} {ta : TA} {σ : L2.St} {H : Hp} {De : Ends} {vs : List V} (h : EvA ta σ H vs) (k : ∀ H1, Ex H H1 → ∀ Q, sp vs H1 Q (E σ)) : tDrop (tCallS sp E ta) De σ H := h H (Ex.refl H) _ fun H1 e1 => k H1 e1 _
theorem ok_law_said (T : Txt K mg) : FnOk P w K mg base CX0 10 T.a_law_said T.d_law_said ["_law_which", "_law_number_here", "_law_second", "_law_third"] (sp_said K) := by
  have G_law_name := ok_law_name (P := P) (w := w) (base := base) T
  have G_law_asked := okG_law_asked (P := P) (w := w) (base := base) T
  have GB_law_asked := okB_law_asked (P := P) (w := w) (base := base) T
  have cf := T.cf
  refine T.F_law_said.ok sc_law_said (fun vs H Q E h => ?_) (fun cdv A outer s H vs Q E hr h => ?_)
  · obtain ⟨k, a, b, c, o, us, rfl, hu, _⟩ := h
    show us.length + 1 = 4
    rw [hu.len]; rfl
  · obtain ⟨k, a, b, c, o, us, rfl, ⟨v1, _, rfl, h1, v2, _, rfl, h2, v3, _, rfl, h3, rfl⟩, hg, q⟩ := h
    cases o with
    | none =>
      refine ⟨_, 
      (pss_cons (ps_set (i := 4) sc_law_said.nd rfl (.inl rfl) pe_non) 
      (pss_cons (ps_try_keep (i := 5) rfl rfl rfl sc_law_said.nd rfl rfl ⟨by rfl, by decide, .inl T.g_RootError⟩ (fun W pn xe tk po => 
        (pss_one (ps_expr (pe_call G_law_asked hr (by rfl) T.g_law_asked T.F_law_asked.kp T.b_law_asked .nil pass0 (pa_cons (pv 0) (pa_cons (pv 1) (pa_cons (pv 2) (pa_cons (pv 3) pa_nil)))))))) (fun a pn => 
        (pss_one (ps_set (i := 4) sc_law_said.nd rfl (.inl rfl) (pv 5))))) 
      (pss_one (ps_ret (pe_call G_law_name (hr.mono (by decide)) (by rfl) T.g_law_name T.F_law_name.kp T.b_law_name .nil pass0 (pa_cons (pv 4) pa_nil)))))), ?_⟩
      refine q_asg (v := .non) ev_c fun H1 e1 => ?_
      refine q_any ?_
      refine s_drop (v := .non) (ev_call (ea_cons (ev_var rfl) (ea_cons (ev_var rfl) (ea_cons (ev_var rfl) (ea_cons (ev_var rfl) ea_nil)))) fun H2 e2 Q' q' E' => ⟨k, a, b, c, _, rfl, ⟨v1, _, rfl, h1.mono (e1.trans e2), v2, _, rfl, h2.mono (e1.trans e2), v3, _, rfl, h3.mono (e1.trans e2), rfl⟩, hg, q'⟩) fun H2 e2 => ?_
      exact s_ret (v := .str "") (ev_call (ea_cons (ev_var rfl) ea_nil) fun H3 e3 Q' q' E' => ⟨none, .non, rfl, rfl, q'⟩) fun H3 e3 => q.go ((e1.trans e2).trans e3)
    | some r =>
      refine ⟨_, 
      (pss_cons (ps_set (i := 4) sc_law_said.nd rfl (.inl rfl) pe_non) 
      (pss_cons (ps_try_keep (i := 5) rfl rfl rfl sc_law_said.nd rfl rfl ⟨by rfl, by decide, .inl T.g_RootError⟩ (fun W pn xe tk po => 
        (pss_one (ps_expr (pe_callS GB_law_asked hr (by rfl) T.g_law_asked T.F_law_asked.kp T.b_law_asked (passAt tk) (pa_cons (pv 0) (pa_cons (pv 1) (pa_cons (pv 2) (pa_cons (pv 3) pa_nil)))))))) (fun a pn => 
        (pss_one (ps_set (i := 4) sc_law_said.nd rfl (.inl rfl) (pv 5))))) 
      (pss_one (ps_ret (pe_call G_law_name (hr.mono (by decide)) (by rfl) T.g_law_name T.F_law_name.kp T.b_law_name .nil pass0 (pa_cons (pv 4) pa_nil)))))), ?_⟩
      refine q_asg (v := .non) ev_c fun H1 e1 => ?_
      refine q_any ?_
      refine s_dropX (ea_cons (ev_var rfl) (ea_cons (ev_var rfl) (ea_cons (ev_var rfl) (ea_cons (ev_var rfl) ea_nil)))) fun H2 e2 _ => ⟨k, a, b, c, r, _, rfl, ⟨v1, _, rfl, h1.mono (e1.trans e2), v2, _, rfl, h2.mono (e1.trans e2), v3, _, rfl, h3.mono (e1.trans e2), rfl⟩, hg, fun H3 e3 => ?_⟩
      refine ⟨by cases r; exact cf.eN; exact cf.eR, rfl, fun p np => ?_⟩
      have e4 : Ex H3 (upd H3 p (ExI (.ref (if r = true then T.cR else T.cN)) p)) := Ex.new np
      refine s_asg (v := .ref p) (ev_var rfl) fun H4 e5 => ?_
      refine s_ret (v := .str (word (some r))) (ev_call (ea_cons (ev_var rfl) ea_nil) fun H5 e6 Q' q' E' => ⟨some r, .ref p, rfl, ⟨p, rfl, e6 _ _ (e5 _ _ upd_same)⟩, q'⟩) fun H5 e6 => q.go (((((e1.trans e2).trans e3).trans e4).trans e5).trans e6)
theorem ev_said {σ : L2.St} {H : Hp} {tr : TA} {E : XK} {k : Nat} {i : Int} {a b c : D} {o : Option Bool} (h : EvAD tr σ H [.int i, a, b, c]) (hk : i = (k : Int)) (hA : Ask k a b c o) : Ev (tCall (sp_said K) [] E tr) σ H (.str (word o)) :=
  ev_callD h fun vs H1 e1 ⟨v, us, hv, hi, hus⟩ H2 e2 Q q E => by
    subst hk
    cases (show v = .int (k : Int) from hi)
    exact ⟨k, a, b, c, o, us, by rw [hv, List.append_nil], hus.mono e2, hA, q⟩
local macro_rules | `(tactic| walk_at "ed") => `(tactic| first
  | exact ea_nilD | exact ed_non | exact ed_var rfl (by first | rfl | assumption)
  | (refine' ea_consD ?a ?b; (case a => walk_at "ed"); (case b => walk_at "ed"))
  | (refine' ed_tup ?a; (case a => walk_at "ed"))
  | (refine' ed_lst ?a; (case a => walk_at "ed"))
  | exact ed_dct | exact ed_str | exact ed_bl
  | (refine' ed_int ?a; (case a => walk_at "ev")))
def Odd (o : D) : Prop := NotNum o ∨ ∃ i : Int, o = .int i ∧ i < 0 ∧ i.natAbs < 2 ^ 250
def pr11 : D := .tup [.int 1, .int 1]
def secs : Nat → D
  | 5 => .int 3
  | 6 => .int 3
  | 7 => .int 1
  | 8 => pr11
  | 9 => pr11
  | _ => .non
theorem ten {k : Nat} (h : k < 10) : k = 0 ∨ k = 1 ∨ k = 2 ∨ k = 3 ∨ k = 4 ∨ k = 5 ∨ k = 6 ∨ k = 7 ∨ k = 8 ∨ k = 9 := by omega
theorem pr_11 : Pr pr11 := ⟨1, 1, rfl, by decide, by decide⟩
theorem bad_odd {o : D} {hi : Int} (h : Odd o) : BadNum 2 hi o := by
  rcases h with h | ⟨i, rfl, h1, h2⟩
  · exact .inl h
  · exact .inr ⟨i, rfl, .inl (by omega), h2⟩
theorem ask_odd {k : Nat} {o b c : D} (hk : k < 10) (h : Odd o) : Ask k o b c (some false) := by
  rcases ten hk with rfl | rfl | rfl | rfl | rfl | rfl | rfl | rfl | rfl | rfl
  · exact ⟨o, rfl, rfl, h⟩
  · exact ⟨o, rfl, rfl, h⟩
  · exact ⟨o, rfl, .inl ⟨rfl, bad_odd h⟩⟩
  · exact ⟨o, rfl, .inl ⟨rfl, bad_odd h⟩⟩
  · exact ⟨o, rfl, .inl ⟨rfl, bad_odd h⟩⟩
  · exact ⟨o, _, rfl, .inl ⟨rfl, bad_odd h⟩⟩
  · exact ⟨o, _, rfl, .inl ⟨rfl, bad_odd h⟩⟩
  · exact ⟨o, _, rfl, .inl ⟨rfl, bad_odd h⟩⟩
  · exact ⟨o, _, rfl, .inl ⟨rfl, bad_odd h⟩⟩
  · exact ⟨o, _, _, rfl, .inl ⟨rfl, bad_odd h⟩⟩
theorem ask_none {k : Nat} {m : Int} {b c : D} (hk : k < 10) (h2 : 1 < k) (h : m = 0 ∨ m = 1 ∨ m = 100001) : Ask k (.int m) b c (some false) := by
  have z : BadNum 2 100000 (.int m) := .inr ⟨m, rfl, by omega, by
    rcases h with rfl | rfl | rfl <;> decide⟩
  rcases ten hk with rfl | rfl | rfl | rfl | rfl | rfl | rfl | rfl | rfl | rfl
  · omega
  · omega
  · exact ⟨_, rfl, .inl ⟨rfl, z⟩⟩
  · exact ⟨_, rfl, .inl ⟨rfl, z⟩⟩
  · exact ⟨_, rfl, .inl ⟨rfl, z⟩⟩
  · exact ⟨_, _, rfl, .inl ⟨rfl, z⟩⟩
  · exact ⟨_, _, rfl, .inl ⟨rfl, z⟩⟩
  · exact ⟨_, _, rfl, .inl ⟨rfl, z⟩⟩
  · exact ⟨_, _, rfl, .inl ⟨rfl, z⟩⟩
  · exact ⟨_, _, _, rfl, .inl ⟨rfl, z⟩⟩
theorem ask_sq {k : Nat} {n : Int} (hk : k < 10) (h2 : 1 < k) (h : Squ n) : Ask k (.int n) (secs k) (secs k) (some true) := by
  rcases ten hk with rfl | rfl | rfl | rfl | rfl | rfl | rfl | rfl | rfl | rfl
  · omega
  · omega
  · exact ⟨_, rfl, .inr ⟨rfl, n, rfl, h⟩⟩
  · exact ⟨_, rfl, .inr ⟨rfl, n, rfl, h⟩⟩
  · exact ⟨_, rfl, .inr ⟨rfl, n, rfl, h⟩⟩
  · exact ⟨_, _, rfl, .inr (.inr ⟨rfl, ⟨n, rfl, h⟩, 3, rfl, by decide, by decide⟩)⟩
  · exact ⟨_, _, rfl, .inr (.inr ⟨rfl, ⟨n, rfl, h⟩, 3, rfl, by decide, by decide⟩)⟩
  · exact ⟨_, _, rfl, .inr (.inr (.inl ⟨rfl, ⟨n, rfl, h⟩, 1, rfl, by decide⟩))⟩
  · exact ⟨_, _, rfl, .inr (.inl ⟨rfl, n, rfl, h⟩)⟩
  · exact ⟨_, _, _, rfl, .inr (.inl ⟨rfl, n, rfl, h⟩)⟩
theorem ask_ok {k : Nat} {n : Int} (hk : k < 10) (h : Nsq n) (h1 : n ≤ 100000) : Ask k (.int n) (secs k) (secs k) none := by
  have := h.two
  rcases ten hk with rfl | rfl | rfl | rfl | rfl | rfl | rfl | rfl | rfl | rfl
  · exact ⟨n, rfl, by omega, by omega⟩
  · exact ⟨n, rfl, by omega, by omega⟩
  · exact ⟨n, rfl, h, h1⟩
  · exact ⟨n, rfl, h, h1⟩
  · exact ⟨n, rfl, h, h1⟩
  · exact ⟨n, 3, rfl, h, h1, by decide, by decide, .inr (by decide)⟩
  · exact ⟨n, 3, rfl, h, h1, by decide, by decide, .inr (by decide)⟩
  · exact ⟨n, 1, rfl, h, h1, by decide, by omega, .inr rfl⟩
  · exact ⟨n, pr11, rfl, h, h1, pr_11⟩
  · exact ⟨n, pr11, pr11, rfl, h, h1, pr_11, pr_11⟩
theorem p40 : 0 ≤ (10 : Int) ^ (40 : Int).toNat ∧ ((10 : Int) ^ (40 : Int).toNat).natAbs < 2 ^ 250 := by decide +kernel
def sp_law_numbers_right (K : PySem.W.Frag) : Sp := fun vs H Q _ => ∃ (o : D) (v : V) (sq g : Int), vs = [v, .int sq, .int g] ∧ Has H o v ∧ Odd o ∧ Squ sq ∧ Nsq g ∧ g ≤ 3000 ∧ RetV (.bl true) H Q
theorem ok_law_numbers_right (T : Txt K mg) : FnOk P w K mg base CX0 11 T.a_law_numbers_right T.d_law_numbers_right ["_law_odd", "_law_square", "_law_good"] (sp_law_numbers_right K) := by
  have G_law_said := ok_law_said (P := P) (w := w) (base := base) T
  refine T.F_law_numbers_right.ok sc_law_numbers_right (fun vs H Q E h => ?_) (fun cdv A outer s H vs Q E hr h => ?_)
  · obtain ⟨o, v, sq, g, rfl, _⟩ := h; rfl
  · obtain ⟨o, v, sq, g, rfl, ho, hodd, hsq, hg, hg1, q⟩ := h
    refine ⟨_, 
      (pss_cons (ps_for PassesOwn.never rfl (pi_range1 rfl T.z_range (pa_cons pe_int pa_nil)) (pg_name (i := 3) sc_law_numbers_right.nd rfl (.inl rfl)) (
        (pss_cons (ps_if (pt_cmpR op_ne (pe_call G_law_said hr (by rfl) T.g_law_said T.F_law_said.kp T.b_law_said .nil pass0 (pa_cons (pv 3) (pa_cons (pv 0) (pa_cons pe_non (pa_cons pe_non pa_nil))))) pe_str (nomark _)) (
          (pss_one (ps_ret pe_bl))) (pss_nil)) 
        (pss_cons (ps_set (i := 4) sc_law_numbers_right.nd rfl (.inl rfl) (pe_ix (kix_list (K := K) rfl) (pe_lst (pa_cons pe_non (pa_cons pe_non (pa_cons pe_non (pa_cons pe_non (pa_cons pe_non (pa_cons pe_int (pa_cons pe_int (pa_cons pe_int (pa_cons (pe_tup (pa_cons pe_int (pa_cons pe_int pa_nil))) (pa_cons (pe_tup (pa_cons pe_int (pa_cons pe_int pa_nil))) pa_nil))))))))))) (pv 3) (fun _ _ => rfl))) 
        (pss_cons (ps_if (PW.pt (pw_and (pt_cmpR op_gt (pv 3) pe_int (nomark _)) (pw_and1 (pt_cmpR op_ne (pe_call G_law_said hr (by rfl) T.g_law_said T.F_law_said.kp T.b_law_said .nil pass0 (pa_cons (pv 3) (pa_cons (pv 1) (pa_cons (pv 4) (pa_cons (pv 4) pa_nil))))) pe_str (nomark _))))) (
          (pss_one (ps_ret pe_bl))) (pss_nil)) 
        (pss_cons (ps_if (pt_cmpR op_ne (pe_call G_law_said hr (by rfl) T.g_law_said T.F_law_said.kp T.b_law_said .nil pass0 (pa_cons (pv 3) (pa_cons (pv 2) (pa_cons (pv 4) (pa_cons (pv 4) pa_nil))))) pe_str (nomark _)) (
          (pss_one (ps_ret pe_bl))) (pss_nil)) 
        (pss_one (ps_for PassesOwn.never rfl (pi_list (pe_lst (pa_cons pe_int (pa_cons pe_int (pa_cons pe_int pa_nil))))) (pg_name (i := 5) sc_law_numbers_right.nd rfl (.inl rfl)) (
          (pss_one (ps_if (PW.pt (pw_and (pt_cmpR op_gt (pv 3) pe_int (nomark _)) (pw_and1 (pt_cmpR op_ne (pe_call G_law_said hr (by rfl) T.g_law_said T.F_law_said.kp T.b_law_said .nil pass0 (pa_cons (pv 3) (pa_cons (pv 5) (pa_cons (pv 4) (pa_cons (pv 4) pa_nil))))) pe_str (nomark _))))) (
            (pss_one (ps_ret pe_bl))) (pss_nil)))))))))))) 
      (pss_one (ps_ret (pe_and (pe_cmpR op_eq (pe_call G_law_said hr (by rfl) T.g_law_said T.F_law_said.kp T.b_law_said .nil pass0 (pa_cons pe_int (pa_cons pe_int (pa_cons pe_non (pa_cons pe_non pa_nil))))) pe_str (nomark _)) (pe_one (pe_cmpR op_eq (pe_call G_law_said hr (by rfl) T.g_law_said T.F_law_said.kp T.b_law_said .nil pass0 (pa_cons pe_int (pa_cons (pe_op op_pow pe_int pe_int) (pa_cons pe_non (pa_cons pe_non pa_nil))))) pe_str (nomark _))))))), ?_⟩
    refine q_forDR (n := 10) (ea_cons ev_c ea_nil) (by decide) (fun _ σ' => ∃ s3 s4 s5, σ' = [some v, some (.int sq), some (.int g), s3, s4, s5]) ⟨none, none, none, rfl⟩ (fun k σ' H1 H2 e1 e2 hk hP => ?_) (fun σ' H1 e1 hP => ?_)
    · obtain ⟨s3, s4, s5, rfl⟩ := hP
      have ho2 := ho.mono (e1.trans e2)
      refine q_when (b := false) (et_test (ev_neW (ev_said (o := some false) (by walk_at "ed") rfl (ask_odd hk hodd)))) (fun z => nomatch z) (fun _ H3 e3 => ?_)
      have hs : [D.non, .non, .non, .non, .non, .int 3, .int 3, .int 1, pr11, pr11][k]? = some (secs k) := by
        rcases ten hk with rfl | rfl | rfl | rfl | rfl | rfl | rfl | rfl | rfl | rfl <;> rfl
      refine q_asgD (d := secs k) (ed_ixL (n := k) (by unfold pr11; walk_at "ed") (by walk_at "ev") rfl hs) fun v4 H4 e4 h4 => ?_
      refine q_when (b := false) (et_is (et_and (et_test (ev_gt (ev_var rfl) ev_c)) fun hz => et_test (ev_neW (ev_said (o := some true) (by walk_at "ed") rfl (ask_sq hk (by have := of_decide_eq_true hz; omega) hsq)))) (Bool.and_false _)) (fun z => nomatch z) (fun _ H5 e5 => ?_)
      have h5 := h4.mono e5
      refine q_when (b := false) (et_test (ev_neW (ev_said (o := none) (by walk_at "ed") rfl (ask_ok hk hg (by omega))))) (fun z => nomatch z) (fun _ H6 e6 => ?_)
      have h6 := h5.mono e6
      refine s_forDL (ds := [.int 0, .int 1, .int 100001]) (by walk_at "ed") (fun _ σ' => ∃ s5, σ' = [some v, some (.int sq), some (.int g), some (.int (k : Int)), some v4, s5]) ⟨_, rfl⟩ (fun j d u σ' H7 H8 e7 e8 hj hu hP => ?_) (fun σ' H7 e7 hP => ?_)
      · obtain ⟨s5, rfl⟩ := hP
        have h8 := h6.mono (e7.trans e8)
        have hm : ∃ m : Int, d = .int m ∧ (m = 0 ∨ m = 1 ∨ m = 100001) := by
          rcases j with _ | _ | _ | j
          · exact ⟨0, (Option.some.inj hj).symm, .inl rfl⟩
          · exact ⟨1, (Option.some.inj hj).symm, .inr (.inl rfl)⟩
          · exact ⟨100001, (Option.some.inj hj).symm, .inr (.inr rfl)⟩
          · cases hj
        obtain ⟨m, rfl, hm⟩ := hm
        refine s_when (b := false) (et_is (et_and (et_test (ev_gt (ev_var rfl) ev_c)) fun hz => et_test (ev_neW (ev_said (o := some false) (a := .int m) (by walk_at "ed") rfl (ask_none hk (by have := of_decide_eq_true hz; omega) hm)))) (Bool.and_false _)) (fun z => nomatch z) (fun _ H9 e9 => ?_)
        exact ⟨e8.trans e9, _, rfl⟩
      · obtain ⟨s5, rfl⟩ := hP
        exact ⟨((((e2.trans e3).trans e4).trans e5).trans e6).trans e7, _, _, _, rfl⟩
    · obtain ⟨s3, s4, s5, rfl⟩ := hP
      have a0 : Ask 0 (.int 0) .non .non none := ⟨0, rfl, by decide, by decide⟩
      have a1 : Ask 1 (.int (10 ^ (40 : Int).toNat)) .non .non none := ⟨_, rfl, p40.1, p40.2⟩
      refine s_ret (v := .bl true) (ev_is (v := .bl (true && true)) (ev_andV (ev_eqW (s := word none) ?_) fun _ => ev_eqW (s := word none) ?_) rfl) fun H2 e2 => q.go (e1.trans e2)
      · exact ev_said (i := 0) (ea_consD (ed_int ev_c) (ea_consD (ed_int ev_c) (ea_consD ed_non (ea_consD ed_non ea_nilD)))) rfl a0
      · exact ev_said (i := 1) (ea_consD (ed_int ev_c) (ea_consD (ed_int (ev_pow ev_c ev_c ⟨by omega, by omega, by decide⟩)) (ea_consD ed_non (ea_consD ed_non ea_nilD)))) rfl a1
/-! the seconds -/
theorem kb_0i : kitB "NoneType" "int" = some false := by decide +kernel
theorem kb_si : kitB "str" "int" = some false := by decide +kernel
theorem kb_li : kitB "list" "int" = some false := by decide +kernel
theorem kb_ti : kitB "tuple" "int" = some false := by decide +kernel
theorem kb_di : kitB "dict" "int" = some false := by decide +kernel
def negI : D → Bool
  | .int _ => true
  | _ => false
/-- what stands for the thing, where -1 and beneath are good -/
def stand (k : Nat) (o : D) : D := if (decide (k = 7) && negI o) = true then .non else o
theorem ask_st {k : Nat} {n : Int} {o c : D} (hk : k = 5 ∨ k = 6 ∨ k = 7) (ho : Odd o) (hn : Ran n) : Ask k (.int n) (stand k o) c (some false) := by
  have z : ∀ most, 0 ≤ most → BadNum 0 most o := fun most hm => by
    rcases ho with h | ⟨i, rfl, h1, h2⟩
    · exact .inl h
    · exact .inr ⟨i, rfl, .inl h1, h2⟩
  rcases hk with rfl | rfl | rfl
  · exact ⟨_, o, rfl, .inr (.inl ⟨rfl, ⟨n, rfl, hn⟩, z 200 (by decide)⟩)⟩
  · exact ⟨_, o, rfl, .inr (.inl ⟨rfl, ⟨n, rfl, hn⟩, z 20 (by decide)⟩)⟩
  · refine ⟨_, _, rfl, .inr (.inl ⟨rfl, ⟨n, rfl, hn⟩, ?_⟩)⟩
    cases o with
    | int i => exact True.intro
    | non => exact True.intro
    | bl b => exact True.intro
    | str s => exact True.intro
    | lst xs => exact True.intro
    | tup xs => exact True.intro
    | dct => exact True.intro
theorem ask_most {k : Nat} {n most m : Int} {c : D} (hk : (k = 5 ∧ most = 200) ∨ (k = 6 ∧ most = 20)) (hn : Nsq n) (h1 : n ≤ 3000) (h0 : 0 ≤ m) (h2 : m ≤ most) : Ask k (.int n) (.int m) c none := by
  rcases hk with ⟨rfl, rfl⟩ | ⟨rfl, rfl⟩
  · exact ⟨n, m, rfl, hn, by omega, h0, h2, .inl h1⟩
  · exact ⟨n, m, rfl, hn, by omega, h0, h2, .inl h1⟩
theorem ask_over {k : Nat} {n most m : Int} {c : D} (hk : (k = 5 ∧ most = 200) ∨ (k = 6 ∧ most = 20)) (hn : Nsq n) (h1 : n ≤ 3000) (h0 : m = -1 ∨ m = most + 1) : Ask k (.int n) (.int m) c (some false) := by
  have := hn.two
  have z : ∀ {e : D}, BadNum 0 most (.int m) := .inr ⟨m, rfl, by omega, by
    rcases h0 with rfl | rfl
    · decide
    · rcases hk with ⟨_, rfl⟩ | ⟨_, rfl⟩ <;> decide⟩
  rcases hk with ⟨rfl, rfl⟩ | ⟨rfl, rfl⟩
  · exact ⟨_, _, rfl, .inr (.inl ⟨rfl, ⟨n, rfl, by omega, by omega⟩, z (e := c)⟩)⟩
  · exact ⟨_, _, rfl, .inr (.inl ⟨rfl, ⟨n, rfl, by omega, by omega⟩, z (e := c)⟩)⟩
theorem ask_told {n c : Int} {d : D} (hn : Nsq n) (h1 : n ≤ 3000) (hc : c.natAbs < 2 ^ 250) (h : c = 0 ∨ n ≤ c * c) : Ask 7 (.int n) (.int c) d (some false) :=
  ⟨_, _, rfl, .inr (.inr (.inr ⟨rfl, n, c, rfl, hn, by omega, rfl, hc, h⟩))⟩
theorem ask_toldS {n c : Int} {d : D} (hn : Squ n) (hc : c.natAbs < 2 ^ 250) : Ask 7 (.int n) (.int c) d (some true) :=
  ⟨_, _, rfl, .inr (.inr (.inl ⟨rfl, ⟨n, rfl, hn⟩, c, rfl, hc⟩))⟩
theorem ask_toldG {n c : Int} {d : D} (hn : Nsq n) (h1 : n ≤ 3000) (h : c = rt n ∨ c = 0 - rt n) : Ask 7 (.int n) (.int c) d none := by
  have h0 := hn.two
  have a := rt_spec (show 0 ≤ n by omega)
  have b := hn.ns
  have w := hn.wh.1
  refine ⟨n, c, rfl, hn, by omega, ?_, ?_, .inl h1⟩
  · omega
  · rcases h with rfl | rfl
    · omega
    · have : (0 - rt n) * (0 - rt n) = rt n * rt n := by grind
      omega
theorem ask_bad {k : Nat} {n : Int} {d e : D} (hk : k = 8 ∨ k = 9) (hn : Nsq n) (h1 : n ≤ 3000) (h : BadPair d) : Ask k (.int n) d e (some false) := by
  rcases hk with rfl | rfl
  · exact ⟨_, _, rfl, .inr (.inr ⟨rfl, ⟨n, rfl, hn, by omega⟩, h⟩)⟩
  · exact ⟨_, _, _, rfl, .inr (.inr ⟨rfl, ⟨n, rfl, hn, by omega⟩, .inl h⟩)⟩
theorem ask_badS {k : Nat} {n : Int} {d e : D} (hk : k = 8 ∨ k = 9) (hn : Squ n) : Ask k (.int n) d e (some true) := by
  rcases hk with rfl | rfl
  · exact ⟨_, _, rfl, .inr (.inl ⟨rfl, n, rfl, hn⟩)⟩
  · exact ⟨_, _, _, rfl, .inr (.inl ⟨rfl, n, rfl, hn⟩)⟩
def bads : List D := [.non, .int 5, .lst [.int 1, .int 1], .tup [.int 1], .tup [.int 1, .int 1, .int 1], .tup [.bl true, .int 1], .tup [.int 1, .non], .tup [.str "1", .int 1], .tup [.int 1, .lst [.int 1]], .dct]
theorem bads_at {j : Nat} (h : j < 10) : ∃ d, bads[j]? = some d ∧ BadPair d := by
  rcases ten h with rfl | rfl | rfl | rfl | rfl | rfl | rfl | rfl | rfl | rfl
  · exact ⟨_, rfl, .non⟩
  · exact ⟨_, rfl, .int 5⟩
  · exact ⟨_, rfl, .lst _⟩
  · exact ⟨_, rfl, .one⟩
  · exact ⟨_, rfl, .three⟩
  · exact ⟨_, rfl, .fst _ True.intro⟩
  · exact ⟨_, rfl, .snd _ True.intro⟩
  · exact ⟨_, rfl, .fst _ True.intro⟩
  · exact ⟨_, rfl, .snd _ True.intro⟩
  · exact ⟨_, rfl, .dct⟩
/-- two words, none of them another -/
theorem et_neither {σ : L2.St} {H : Hp} {ta tb : TE} {s t : Str} (h1 : Ev ta σ H (.str s)) (h2 : Ev tb σ H (.str t)) : EvT (tOr (tTest (tOp rNe ta (tC (.str s)))) (tTest (tOp rNe tb (tC (.str t))))) σ H false :=
  et_is (et_or (et_test (ev_neW h1)) fun _ => et_test (ev_neW h2)) rfl
def sp_law_seconds_right (K : PySem.W.Frag) : Sp := fun vs H Q _ => ∃ (o : D) (v : V) (sq g m : Int), vs = [v, .int sq, .int g, .int m] ∧ Has H o v ∧ Odd o ∧ Squ sq ∧ Nsq g ∧ g ≤ 3000 ∧ 0 ≤ m ∧ m < 2147483648 ∧ RetV (.bl true) H Q
theorem ok_law_seconds_right (T : Txt K mg) : FnOk P w K mg base CX0 11 T.a_law_seconds_right T.d_law_seconds_right ["_law_odd", "_law_square", "_law_good", "_law_more"] (sp_law_seconds_right K) := by
  have G_law_said := ok_law_said (P := P) (w := w) (base := base) T
  have G_law_root := ok_law_root (P := P) (w := w) (base := base) T
  refine T.F_law_seconds_right.ok sc_law_seconds_right (fun vs H Q E h => ?_) (fun cdv A outer s H vs Q E hr h => ?_)
  · obtain ⟨o, v, sq, g, m, rfl, _⟩ := h; rfl
  · obtain ⟨o, v, sq, g, m, rfl, ho, hodd, hsq, hg, hg1, hm0, hm1, q⟩ := h
    have hg0 := hg.two
    have hrg : Ran g := ⟨by omega, by omega⟩
    refine ⟨_, 
      (pss_cons (ps_for PassesOwn.never rfl (pi_tup (pe_tup (pa_cons pe_int (pa_cons pe_int (pa_cons pe_int pa_nil))))) (pg_name (i := 4) sc_law_seconds_right.nd rfl (.inl rfl)) (
        (pss_cons (ps_set (i := 5) sc_law_seconds_right.nd rfl (.inl rfl) (pe_ifExp (PW.pt (pw_and (pt_cmpR op_eq (pv 4) pe_int (nomark _)) (pw_and (pt_val (pe_callB (id := "isinstance") (kisi (K := K) rfl) (by rfl) T.z_isinstance (by decide +kernel) (pa_cons (pv 0) (pa_cons (pe_bltn (v := .ty "int") (u := .type "int") (by rfl) T.z_int (by decide +kernel) rfl) pa_nil)))) (pw_and1 (pt_cmpR op_ltB (pv 0) pe_int (nomark _)))))) pe_non (pv 0))) 
        (pss_one (ps_if (PW.pt (pw_or (pt_cmpR op_ne (pe_call G_law_said hr (by rfl) T.g_law_said T.F_law_said.kp T.b_law_said .nil pass0 (pa_cons (pv 4) (pa_cons (pv 1) (pa_cons (pv 5) (pa_cons pe_non pa_nil))))) pe_str (nomark _)) (pw_or1 (pt_cmpR op_ne (pe_call G_law_said hr (by rfl) T.g_law_said T.F_law_said.kp T.b_law_said .nil pass0 (pa_cons (pv 4) (pa_cons (pv 2) (pa_cons (pv 5) (pa_cons pe_non pa_nil))))) pe_str (nomark _))))) (
          (pss_one (ps_ret pe_bl))) (pss_nil)))))) 
      (pss_cons (ps_for PassesOwn.never rfl (pi_tup (pe_tup (pa_cons (pe_tup (pa_cons pe_int (pa_cons pe_int pa_nil))) (pa_cons (pe_tup (pa_cons pe_int (pa_cons pe_int pa_nil))) pa_nil)))) (pg_tup rfl (pgs_cons (pg_name (i := 4) sc_law_seconds_right.nd rfl (.inl rfl)) (pgs_cons (pg_name (i := 6) sc_law_seconds_right.nd rfl (.inl rfl)) pgs_nil))) (
        (pss_cons (ps_if (PW.pt (pw_or (pt_cmpR op_ne (pe_call G_law_said hr (by rfl) T.g_law_said T.F_law_said.kp T.b_law_said .nil pass0 (pa_cons (pv 4) (pa_cons (pv 2) (pa_cons (pv 6) (pa_cons pe_non pa_nil))))) pe_str (nomark _)) (pw_or1 (pt_cmpR op_ne (pe_call G_law_said hr (by rfl) T.g_law_said T.F_law_said.kp T.b_law_said .nil pass0 (pa_cons (pv 4) (pa_cons (pv 2) (pa_cons (pe_op op_add (pv 6) pe_int) (pa_cons pe_non pa_nil))))) pe_str (nomark _))))) (
          (pss_one (ps_ret pe_bl))) (pss_nil)) 
        (pss_one (ps_if (PW.pt (pw_or (pt_cmpR op_ne (pe_call G_law_said hr (by rfl) T.g_law_said T.F_law_said.kp T.b_law_said .nil pass0 (pa_cons (pv 4) (pa_cons (pv 2) (pa_cons pe_int (pa_cons pe_non pa_nil))))) pe_str (nomark _)) (pw_or1 (pt_cmpR op_ne (pe_call G_law_said hr (by rfl) T.g_law_said T.F_law_said.kp T.b_law_said .nil pass0 (pa_cons (pv 4) (pa_cons (pv 2) (pa_cons (pe_un un_neg pe_int) (pa_cons pe_non pa_nil))))) pe_str (nomark _))))) (
          (pss_one (ps_ret pe_bl))) (pss_nil)))))) 
      (pss_cons (ps_set (i := 7) sc_law_seconds_right.nd rfl (.inl rfl) (pe_call G_law_root (hr.mono (by decide)) (by rfl) T.g_law_root T.F_law_root.kp T.b_law_root .nil pass0 (pa_cons (pv 2) pa_nil))) 
      (pss_cons (ps_for PassesOwn.never rfl (pi_list (pe_lst (pa_cons pe_int (pa_cons (pe_op op_add (pe_op op_add (pv 7) pe_int) (pe_op op_mod (pv 3) pe_int)) (pa_cons (pe_op op_sub (pe_op op_sub (pe_un un_neg pe_int) (pv 7)) (pe_op op_mod (pv 3) pe_int)) pa_nil))))) (pg_name (i := 8) sc_law_seconds_right.nd rfl (.inl rfl)) (
        (pss_one (ps_if (PW.pt (pw_or (pt_cmpR op_ne (pe_call G_law_said hr (by rfl) T.g_law_said T.F_law_said.kp T.b_law_said .nil pass0 (pa_cons pe_int (pa_cons (pv 2) (pa_cons (pv 8) (pa_cons pe_non pa_nil))))) pe_str (nomark _)) (pw_or1 (pt_cmpR op_ne (pe_call G_law_said hr (by rfl) T.g_law_said T.F_law_said.kp T.b_law_said .nil pass0 (pa_cons pe_int (pa_cons (pv 1) (pa_cons (pv 8) (pa_cons pe_non pa_nil))))) pe_str (nomark _))))) (
          (pss_one (ps_ret pe_bl))) (pss_nil))))) 
      (pss_cons (ps_if (PW.pt (pw_or (pt_cmpR op_ne (pe_call G_law_said hr (by rfl) T.g_law_said T.F_law_said.kp T.b_law_said .nil pass0 (pa_cons pe_int (pa_cons (pv 2) (pa_cons (pv 7) (pa_cons pe_non pa_nil))))) pe_str (nomark _)) (pw_or1 (pt_cmpR op_ne (pe_call G_law_said hr (by rfl) T.g_law_said T.F_law_said.kp T.b_law_said .nil pass0 (pa_cons pe_int (pa_cons (pv 2) (pa_cons (pe_op op_sub pe_int (pv 7)) (pa_cons pe_non pa_nil))))) pe_str (nomark _))))) (
        (pss_one (ps_ret pe_bl))) (pss_nil)) 
      (pss_cons (ps_set (i := 9) sc_law_seconds_right.nd rfl (.inl rfl) (pe_ix (kix_list (K := K) rfl) (pe_lst (pa_cons pe_non (pa_cons pe_int (pa_cons (pe_lst (pa_cons pe_int (pa_cons pe_int pa_nil))) (pa_cons (pe_tup (pa_cons pe_int pa_nil)) (pa_cons (pe_tup (pa_cons pe_int (pa_cons pe_int (pa_cons pe_int pa_nil)))) (pa_cons (pe_tup (pa_cons pe_bl (pa_cons pe_int pa_nil))) (pa_cons (pe_tup (pa_cons pe_int (pa_cons pe_non pa_nil))) (pa_cons (pe_tup (pa_cons pe_str (pa_cons pe_int pa_nil))) (pa_cons (pe_tup (pa_cons pe_int (pa_cons (pe_lst (pa_cons pe_int pa_nil)) pa_nil))) (pa_cons pe_dnewK pa_nil))))))))))) (pe_op op_mod (pe_op op_fdivA (pv 3) pe_int) pe_int) (fun _ _ => rfl))) 
      (pss_cons (ps_for PassesOwn.never rfl (pi_tup (pe_tup (pa_cons pe_int (pa_cons pe_int pa_nil)))) (pg_name (i := 4) sc_law_seconds_right.nd rfl (.inl rfl)) (
        (pss_one (ps_if (PW.pt (pw_or (pt_cmpR op_ne (pe_call G_law_said hr (by rfl) T.g_law_said T.F_law_said.kp T.b_law_said .nil pass0 (pa_cons (pv 4) (pa_cons (pv 1) (pa_cons (pv 9) (pa_cons (pv 9) pa_nil))))) pe_str (nomark _)) (pw_or1 (pt_cmpR op_ne (pe_call G_law_said hr (by rfl) T.g_law_said T.F_law_said.kp T.b_law_said .nil pass0 (pa_cons (pv 4) (pa_cons (pv 2) (pa_cons (pv 9) (pa_cons (pe_tup (pa_cons pe_int (pa_cons pe_int pa_nil))) pa_nil))))) pe_str (nomark _))))) (
          (pss_one (ps_ret pe_bl))) (pss_nil))))) 
      (pss_one (ps_ret (pe_and (pe_cmpR op_eq (pe_call G_law_said hr (by rfl) T.g_law_said T.F_law_said.kp T.b_law_said .nil pass0 (pa_cons pe_int (pa_cons (pv 2) (pa_cons (pe_tup (pa_cons pe_int (pa_cons pe_int pa_nil))) (pa_cons (pv 9) pa_nil))))) pe_str (nomark _)) (pe_one (pe_cmpR op_eq (pe_call G_law_said hr (by rfl) T.g_law_said T.F_law_said.kp T.b_law_said .nil pass0 (pa_cons pe_int (pa_cons (pv 2) (pa_cons (pe_tup (pa_cons (pe_un un_neg pe_int) (pa_cons (pe_op op_pow pe_int pe_int) pa_nil))) (pa_cons (pe_tup (pa_cons pe_int (pa_cons pe_int pa_nil))) pa_nil))))) pe_str (nomark _))))))))))))), ?_⟩
    refine q_forDT (ds := [.int 5, .int 6, .int 7]) (by walk_at "ed") (fun _ σ' => ∃ s4 s5 s6 s7 s8 s9, σ' = [some v, some (.int sq), some (.int g), some (.int m), s4, s5, s6, s7, s8, s9]) ⟨_, _, _, _, _, _, rfl⟩ (fun j d u σ' H1 H2 e1 e2 hj hu hP => ?_) (fun σ' H1 e1 hP => ?_)
    · obtain ⟨s4, s5, s6, s7, s8, s9, rfl⟩ := hP
      have ho2 := ho.mono (e1.trans e2)
      obtain ⟨k, rfl, hk⟩ : ∃ k : Nat, d = .int (k : Int) ∧ (k = 5 ∨ k = 6 ∨ k = 7) := by
        rcases j with _ | _ | _ | j
        · exact ⟨5, (Option.some.inj hj).symm, .inl rfl⟩
        · exact ⟨6, (Option.some.inj hj).symm, .inr (.inl rfl)⟩
        · exact ⟨7, (Option.some.inj hj).symm, .inr (.inr rfl)⟩
        · cases hj
      cases (show u = .int (k : Int) from hu)
      have test : ∀ {H3 : Hp}, Ex H2 H3 → EvT (tAnd (tTest (tOp rEq (tVar 4) (tC (.int 7)))) (tAnd (tTest (tCB (rIsi K) (tCons (tVar 0) (tCons (tC (.ty "int")) tNil)))) (tTest (tOp rLtB (tVar 0) (tC (.int 0)))))) [some v, some (.int sq), some (.int g), some (.int m), some (.int (k : Int)), s5, s6, s7, s8, s9] H3 (decide (k = 7) && negI o) := fun {H3} e3 => by
        refine et_is (et_and (a := decide (k = 7)) (b := negI o) (et_is (et_test (ev_eqI (ev_var rfl) ev_c)) ?_) fun _ => ?_) rfl
        · rw [Bool.eq_iff_iff, decide_eq_true_iff, decide_eq_true_iff]; omega
        · have hv := ho2.mono e3
          rcases hodd with h | ⟨i, rfl, h1, h2⟩
          · cases o with
            | int i => exact False.elim h
            | bl b =>
              cases (show v = .bl b from hv)
              exact et_is (et_and (et_test (ev_isD (ev_var rfl) hv kb_bi)) fun _ => et_test (ev_ltB (i := if b = true then 1 else 0) (ev_var rfl) (.inr ⟨b, rfl, rfl⟩) ev_c)) (by cases b <;> rfl)
            | non => exact et_is (et_and (b := false) (et_test (ev_isD (b := false) (ev_var rfl) hv kb_0i)) fun z => nomatch z) rfl
            | str s => exact et_is (et_and (b := false) (et_test (ev_isD (b := false) (ev_var rfl) hv kb_si)) fun z => nomatch z) rfl
            | lst xs => exact et_is (et_and (b := false) (et_test (ev_isD (b := false) (ev_var rfl) hv kb_li)) fun z => nomatch z) rfl
            | tup xs => exact et_is (et_and (b := false) (et_test (ev_isD (b := false) (ev_var rfl) hv kb_ti)) fun z => nomatch z) rfl
            | dct => exact et_is (et_and (b := false) (et_test (ev_isD (b := false) (ev_var rfl) hv kb_di)) fun z => nomatch z) rfl
          · cases (show v = .int i from hv)
            exact et_is (et_and (et_test (ev_isD (ev_var rfl) hv kb_ii)) fun _ => et_test (ev_ltB (i := i) (ev_var rfl) (.inl rfl) ev_c)) (by rw [decide_eq_true h1]; rfl)
      refine q_asgD (d := stand k o) (ed_if (b := decide (k = 7) && negI o) (test (Ex.refl H2)) (fun z => by
        unfold stand
        rw [if_pos z]
        exact ed_non) (fun z => by
        unfold stand
        rw [if_neg (by rw [z]; exact Bool.false_ne_true)]
        exact ed_var rfl ho2)) fun v5 H3 e3 h3 => ?_
      refine s_when (b := false) (et_neither (ev_said (o := some false) (by walk_at "ed") rfl (ask_st hk hodd ⟨hsq.1, hsq.2.1⟩)) (ev_said (o := some false) (by walk_at "ed") rfl (ask_st hk hodd hrg))) (fun z => nomatch z) (fun _ H4 e4 => ?_)
      exact ⟨(e2.trans e3).trans e4, _, _, _, _, _, _, rfl⟩
    obtain ⟨s4, s5, s6, s7, s8, s9, rfl⟩ := hP
    refine q_forDP (ps := [(.int 5, .int 200), (.int 6, .int 20)]) (by walk_at "ed") (fun _ σ' => ∃ s4 s5 s6 s7 s8 s9, σ' = [some v, some (.int sq), some (.int g), some (.int m), s4, s5, s6, s7, s8, s9]) ⟨_, _, _, _, _, _, rfl⟩ (fun j d u u2 σ' H2 H3 e2 e3 hj hu hu2 hP => ?_) (fun σ' H2 e2 hP => ?_)
    · obtain ⟨s4, s5, s6, s7, s8, s9, rfl⟩ := hP
      obtain ⟨k, most, hd, hk⟩ : ∃ (k : Nat) (most : Int), d = (.int (k : Int), .int most) ∧ ((k = 5 ∧ most = 200) ∨ (k = 6 ∧ most = 20)) := by
        rcases j with _ | _ | j
        · exact ⟨5, 200, (Option.some.inj hj).symm, .inl ⟨rfl, rfl⟩⟩
        · exact ⟨6, 20, (Option.some.inj hj).symm, .inr ⟨rfl, rfl⟩⟩
        · cases hj
      subst hd
      cases (show u = .int (k : Int) from hu)
      cases (show u2 = .int most from hu2)
      have hmp : 0 ≤ most := by omega
      refine q_when (b := false) (et_neither (ev_said (o := none) (by walk_at "ed") rfl (ask_most hk hg hg1 hmp (Int.le_refl _))) (ev_said (o := some false) (by walk_at "ed") rfl (ask_over hk hg hg1 (.inr rfl)))) (fun z => nomatch z) (fun _ H4 e4 => ?_)
      refine s_when (b := false) (et_neither (ev_said (o := none) (by walk_at "ed") rfl (ask_most hk hg hg1 (Int.le_refl _) hmp)) (ev_said (o := some false) (by walk_at "ed") rfl (ask_over hk hg hg1 (.inl rfl)))) (fun z => nomatch z) (fun _ H5 e5 => ?_)
      exact ⟨(e3.trans e4).trans e5, _, _, _, _, _, _, rfl⟩
    obtain ⟨s4, s5, s6, s7, s8, s9, rfl⟩ := hP
    refine q_asg (v := .int (rt g)) (by walk_at "ev") fun H3 e3 => ?_
    have ra := rt_spec (show 0 ≤ g by omega)
    have rl : rt g ≤ 54 := rt_le (by omega) (by decide) (by omega)
    have rm0 := Int.emod_nonneg m (show (100 : Int) ≠ 0 by decide)
    have rm1 := Int.emod_lt_of_pos m (show (0 : Int) < 100 by decide)
    have big : g ≤ (rt g + 1 + m % 100) * (rt g + 1 + m % 100) := by
      have := sq_le (show 0 ≤ rt g + 1 by omega) (show rt g + 1 ≤ rt g + 1 + m % 100 by omega)
      omega
    have big2 : g ≤ (-1 - rt g - m % 100) * (-1 - rt g - m % 100) := by
      have : (-1 - rt g - m % 100) * (-1 - rt g - m % 100) = (rt g + 1 + m % 100) * (rt g + 1 + m % 100) := by grind
      omega
    refine q_forDL (ds := [.int 0, .int (rt g + 1 + m % 100), .int (-1 - rt g - m % 100)]) (ed_lst (ea_consD (ed_int ev_c) (ea_consD (ed_int (ev_add (ev_add (ev_var rfl) ev_c) (ev_mod (ev_var rfl) ev_c (by omega)))) (ea_consD (ed_int (ev_sub (ev_sub (ev_neg ev_c) (ev_var rfl)) (ev_mod (ev_var rfl) ev_c (by omega)))) ea_nilD)))) (fun _ σ' => ∃ s4 s5 s6 s8 s9, σ' = [some v, some (.int sq), some (.int g), some (.int m), s4, s5, s6, some (.int (rt g)), s8, s9]) ⟨_, _, _, _, _, rfl⟩ (fun j d u σ' H4 H5 e4 e5 hj hu hP => ?_) (fun σ' H4 e4 hP => ?_)
    · obtain ⟨s4, s5, s6, s8, s9, rfl⟩ := hP
      obtain ⟨c, rfl, hc, hc2⟩ : ∃ c : Int, d = .int c ∧ (c = 0 ∨ g ≤ c * c) ∧ c.natAbs < 2 ^ 20 := by
        rcases j with _ | _ | _ | j
        · exact ⟨0, (Option.some.inj hj).symm, .inl rfl, by decide⟩
        · exact ⟨_, (Option.some.inj hj).symm, .inr big, by omega⟩
        · exact ⟨_, (Option.some.inj hj).symm, .inr big2, by omega⟩
        · cases hj
      have hc3 : c.natAbs < 2 ^ 250 := pw_mono hc2 (by decide)
      cases (show u = .int c from hu)
      refine s_when (b := false) (et_neither (ev_said (k := 7) (o := some false) (by walk_at "ed") rfl (ask_told hg hg1 hc3 hc)) (ev_said (k := 7) (o := some true) (by walk_at "ed") rfl (ask_toldS hsq hc3))) (fun z => nomatch z) (fun _ H6 e6 => ?_)
      exact ⟨e5.trans e6, _, _, _, _, _, rfl⟩
    obtain ⟨s4, s5, s6, s8, s9, rfl⟩ := hP
    refine q_when (b := false) (et_neither (ev_said (k := 7) (o := none) (by walk_at "ed") rfl (ask_toldG hg hg1 (.inl rfl))) (ev_said (k := 7) (o := none) (by walk_at "ed") rfl (ask_toldG hg hg1 (.inr rfl)))) (fun z => nomatch z) (fun _ H5 e5 => ?_)
    have rb0 := Int.emod_nonneg (m / 100) (show (10 : Int) ≠ 0 by decide)
    have rb1 := Int.emod_lt_of_pos (m / 100) (show (0 : Int) < 10 by decide)
    obtain ⟨j, hj⟩ : ∃ j : Nat, m / 100 % 10 = (j : Int) := ⟨(m / 100 % 10).toNat, by omega⟩
    obtain ⟨bd, hb, hbad⟩ := bads_at (j := j) (by omega)
    refine q_asgD (d := bd) (ed_ixL (ds := bads) (n := j) (ed_lst (ea_consD ed_non (ea_consD (ed_int ev_c) (ea_consD (by walk_at "ed") (ea_consD (by walk_at "ed") (ea_consD (by walk_at "ed") (ea_consD (by walk_at "ed") (ea_consD (by walk_at "ed") (ea_consD (by walk_at "ed") (ea_consD (by walk_at "ed") (ea_consD (by walk_at "ed") ea_nilD))))))))))) (ev_mod (ev_div (ev_var rfl) ev_c ⟨by omega, .inl (by omega)⟩) ev_c (by omega)) hj hb) fun v9 H6 e6 h6 => ?_
    refine q_forDT (ds := [.int 8, .int 9]) (by walk_at "ed") (fun _ σ' => ∃ s4 s5 s6 s8, σ' = [some v, some (.int sq), some (.int g), some (.int m), s4, s5, s6, some (.int (rt g)), s8, some v9]) ⟨_, _, _, _, rfl⟩ (fun j d u σ' H7 H8 e7 e8 hj hu hP => ?_) (fun σ' H7 e7 hP => ?_)
    · obtain ⟨s4, s5, s6, s8, rfl⟩ := hP
      obtain ⟨k, rfl, hk⟩ : ∃ k : Nat, d = .int (k : Int) ∧ (k = 8 ∨ k = 9) := by
        rcases j with _ | _ | j
        · exact ⟨8, (Option.some.inj hj).symm, .inl rfl⟩
        · exact ⟨9, (Option.some.inj hj).symm, .inr rfl⟩
        · cases hj
      cases (show u = .int (k : Int) from hu)
      have h8 := h6.mono (e7.trans e8)
      refine s_when (b := false) (et_neither (ev_said (o := some true) (by walk_at "ed") rfl (ask_badS hk hsq)) (ev_said (o := some false) (c := .tup [.int 1, .int 1]) (by walk_at "ed") rfl (ask_bad hk hg hg1 hbad))) (fun z => nomatch z) (fun _ H9 e9 => ?_)
      exact ⟨e8.trans e9, _, _, _, _, rfl⟩
    obtain ⟨s4, s5, s6, s8, rfl⟩ := hP
    have h7 := h6.mono e7
    have ge := ((((((e1.trans e2).trans e3).trans e4).trans e5).trans e6).trans e7)
    have a0 : Ask 9 (.int g) pr11 bd (some false) := ⟨_, _, _, rfl, .inr (.inr ⟨rfl, ⟨g, rfl, hg, by omega⟩, .inr ⟨pr_11, hbad⟩⟩)⟩
    have a1 : Ask 9 (.int g) (.tup [.int (-1), .int (10 ^ (40 : Int).toNat)]) (.tup [.int 0, .int 0]) none := ⟨g, _, _, rfl, hg, by omega, ⟨_, _, rfl, by decide, p40.2⟩, ⟨_, _, rfl, by decide, by decide⟩⟩
    refine s_ret (v := .bl true) (ev_is (v := .bl (true && true)) (ev_andV (ev_eqW (s := word (some false)) ?_) fun _ => ev_eqW (s := word none) ?_) rfl) fun H8 e8 => q.go (ge.trans e8)
    · exact ev_said (i := 9) (ea_consD (ed_int ev_c) (ea_consD (ed_int (ev_var rfl)) (ea_consD (by unfold pr11; walk_at "ed") (ea_consD (ed_var rfl h7) ea_nilD)))) rfl a0
    · exact ev_said (i := 9) (ea_consD (ed_int ev_c) (ea_consD (ed_int (ev_var rfl)) (ea_consD (ed_tup (ea_consD (ed_int (ev_neg ev_c)) (ea_consD (ed_int (ev_pow ev_c ev_c ⟨by omega, by omega, by decide⟩)) ea_nilD))) (ea_consD (ed_tup (ea_consD (ed_int ev_c) (ea_consD (ed_int ev_c) ea_nilD))) ea_nilD)))) rfl a1
/-! the ends -/
theorem rt2 : rt 2 = 1 := (rt_uni (by decide) (by decide) (by decide)).symm
def sp_law_ends_right (K : PySem.W.Frag) : Sp := fun vs H Q _ => vs = [] ∧ RetV (.bl true) H Q
theorem spv_law_ends_right {H : Hp} : SpV (sp_law_ends_right K) [] H (.bl true) := fun _ _ _ q _ => ⟨rfl, q⟩
theorem ok_law_ends_right (T : Txt K mg) : FnOk P w K mg base CX0 11 T.a_law_ends_right T.d_law_ends_right [] (sp_law_ends_right K) := by
  have G_law_said := ok_law_said (P := P) (w := w) (base := base) T
  refine T.F_law_ends_right.ok sc_law_ends_right (fun vs H Q E h => ?_) (fun cdv A outer s H vs Q E hr h => ?_)
  · obtain ⟨rfl, _⟩ := h; rfl
  · obtain ⟨rfl, q⟩ := h
    refine ⟨_, 
      (pss_cons (ps_for PassesOwn.never rfl (pi_tup (pe_tup (pa_cons pe_int (pa_cons pe_int pa_nil)))) (pg_name (i := 0) sc_law_ends_right.nd rfl (.inl rfl)) (
        (pss_one (ps_for PassesOwn.never rfl (pi_range2 rfl T.z_range (pa_cons pe_int (pa_cons pe_int pa_nil))) (pg_name (i := 1) sc_law_ends_right.nd rfl (.inl rfl)) (
          (pss_cons (ps_set (i := 2) sc_law_ends_right.nd rfl (.inl rfl) (pe_ix (kix_list (K := K) rfl) (pe_lst (pa_cons pe_int (pa_cons pe_int (pa_cons pe_int (pa_cons pe_int (pa_cons pe_int (pa_cons pe_int (pa_cons (pe_tup (pa_cons pe_int (pa_cons pe_int pa_nil))) (pa_cons (pe_tup (pa_cons pe_int (pa_cons pe_int pa_nil))) pa_nil))))))))) (pe_op op_sub (pv 1) pe_int) (fun _ _ => rfl))) 
          (pss_one (ps_if (pt_cmpR op_ne (pe_call G_law_said hr (by rfl) T.g_law_said T.F_law_said.kp T.b_law_said .nil pass0 (pa_cons (pv 1) (pa_cons (pv 0) (pa_cons (pv 2) (pa_cons (pv 2) pa_nil))))) pe_str (nomark _)) (
            (pss_one (ps_ret pe_bl))) (pss_nil))))))))) 
      (pss_one (ps_ret pe_bl))), ?_⟩
    refine q_forDT (ds := [.int 2, .int 100000]) (by walk_at "ed") (fun _ σ' => ∃ s0 s1 s2, σ' = [s0, s1, s2]) ⟨_, _, _, rfl⟩ (fun j d u σ' H1 H2 e1 e2 hj hu hP => ?_) (fun σ' H1 e1 hP => ?_)
    · obtain ⟨s0, s1, s2, rfl⟩ := hP
      obtain ⟨n, rfl, hn, hn1⟩ : ∃ n : Int, d = .int n ∧ Nsq n ∧ n ≤ 100000 := by
        rcases j with _ | _ | j
        · exact ⟨2, (Option.some.inj hj).symm, ⟨by decide, by rw [rt2]; decide⟩, by decide⟩
        · exact ⟨100000, (Option.some.inj hj).symm, ⟨by decide, by rw [rt100000]; decide⟩, by decide⟩
        · cases hj
      cases (show u = .int n from hu)
      refine s_forR2 (lo := 2) (n := 10) (ea_cons ev_c (ea_cons ev_c ea_nil)) ⟨by decide, by decide, by decide, by decide⟩ (fun _ σ' H3 => Ex H1 H3 ∧ ∃ s1 s2, σ' = [some (.int n), s1, s2]) (fun H3 e3 => ⟨e2.trans e3, _, _, rfl⟩) (fun i σ' H3 hi hP => ?_) (fun σ' H3 hP => ?_)
      · obtain ⟨e3, s1, s2, rfl⟩ := hP
        obtain ⟨k, hk, hk2⟩ : ∃ k : Nat, (2 : Int) + (i : Int) = (k : Int) ∧ k = i + 2 := ⟨i + 2, by omega, rfl⟩
        rw [hk]
        have hk10 : k < 10 := by omega
        have hs : [D.int 3, .int 3, .int 3, .int 3, .int 3, .int 1, pr11, pr11][i]? = some (if k < 5 then .int 3 else secs k) := by
          subst hk2
          have h8 : i = 0 ∨ i = 1 ∨ i = 2 ∨ i = 3 ∨ i = 4 ∨ i = 5 ∨ i = 6 ∨ i = 7 := by omega
          rcases h8 with rfl | rfl | rfl | rfl | rfl | rfl | rfl | rfl <;> rfl
        have ask : Ask k (.int n) (if k < 5 then .int 3 else secs k) (if k < 5 then .int 3 else secs k) none := by
          by_cases z : k < 5
          · rw [if_pos z]
            have h3 : k = 2 ∨ k = 3 ∨ k = 4 := by omega
            rcases h3 with rfl | rfl | rfl
            · exact ⟨n, rfl, hn, hn1⟩
            · exact ⟨n, rfl, hn, hn1⟩
            · exact ⟨n, rfl, hn, hn1⟩
          · rw [if_neg z]
            exact ask_ok hk10 hn hn1
        generalize (if k < 5 then D.int 3 else secs k) = sd at hs ask
        refine q_asgD (d := sd) (ed_ixL (ds := [.int 3, .int 3, .int 3, .int 3, .int 3, .int 1, pr11, pr11]) (n := i) (by unfold pr11; walk_at "ed") (ev_sub (ev_var rfl) ev_c) (by omega) hs) fun v2 H4 e4 h4 => ?_
        refine s_when (b := false) (et_test (ev_neW (ev_said (o := none) (by walk_at "ed") rfl ask))) (fun z => nomatch z) (fun _ H5 e5 => ?_)
        exact ⟨(e3.trans e4).trans e5, _, _, rfl⟩
      · obtain ⟨e3, s1, s2, rfl⟩ := hP
        exact ⟨e3, _, _, _, rfl⟩
    · exact s_ret ev_c fun H2 e2 => q.go (e1.trans e2)
/-! the law -/
def odds (m : Int) : List D := [.non, .bl true, .bl false, .str "5", .lst [.int 5], .tup [.int 5], .int (-1), .int (-1 - m / 8 % 10 ^ (9 : Int).toNat)]
theorem p9 : (10 : Int) ^ (9 : Int).toNat = 1000000000 := by decide +kernel
theorem odds_at {m : Int} {j : Nat} (h : j < 8) : ∃ d, (odds m)[j]? = some d ∧ Odd d := by
  have h8 : j = 0 ∨ j = 1 ∨ j = 2 ∨ j = 3 ∨ j = 4 ∨ j = 5 ∨ j = 6 ∨ j = 7 := by omega
  rcases h8 with rfl | rfl | rfl | rfl | rfl | rfl | rfl | rfl
  · exact ⟨_, rfl, .inl True.intro⟩
  · exact ⟨_, rfl, .inl True.intro⟩
  · exact ⟨_, rfl, .inl True.intro⟩
  · exact ⟨_, rfl, .inl True.intro⟩
  · exact ⟨_, rfl, .inl True.intro⟩
  · exact ⟨_, rfl, .inl True.intro⟩
  · exact ⟨_, rfl, .inr ⟨-1, rfl, by decide, by decide⟩⟩
  · refine ⟨_, rfl, .inr ⟨_, rfl, ?_, ?_⟩⟩
    · rw [p9]; omega
    · rw [p9]
      exact pw_mono (a := 40) (by omega) (by decide)
def sp_law (K : PySem.W.Frag) : Sp := fun vs H Q _ => ∃ (a : Addr) (ns : List Int), vs = [.ref a] ∧ SqL K H a (ns.map V.int) ∧ ns.length ≤ 63 ∧ ∀ H', Q (.bl true) H'
theorem ok_law (T : Txt K mg) : FnOk P w K mg base CX0 12 T.a_law T.d_law ["_law_script"] (sp_law K) := by
  have G_law_mixed := ok_law_mixed (P := P) (w := w) (base := base) T
  have G_law_number_by := ok_law_number_by (P := P) (w := w) (base := base) T
  have G_law_ends_right := ok_law_ends_right (P := P) (w := w) (base := base) T
  have G_law_numbers_right := ok_law_numbers_right (P := P) (w := w) (base := base) T
  have G_law_seconds_right := ok_law_seconds_right (P := P) (w := w) (base := base) T
  refine T.F_law.ok sc_law (fun vs H Q E h => ?_) (fun cdv A outer s H vs Q E hr h => ?_)
  · obtain ⟨a, ns, rfl, _⟩ := h; rfl
  · obtain ⟨a, ns, rfl, hS, hlen, q⟩ := h
    refine ⟨_, 
      (pss_cons (ps_if (pt_not (pt_val (pe_call0 G_law_ends_right hr (by rfl) T.g_law_ends_right T.F_law_ends_right.kp T.b_law_ends_right .nil pass0))) (
        (pss_one (ps_ret pe_bl))) (pss_nil)) 
      (pss_cons (ps_for PassesOwn.never rfl (pi_enum (by rfl) T.z_enumerate (pa_cons (pe_slice (ksl_list (K := K) rfl) (pe_op (kcat (K := K) rfl) (pv 0) (pe_lst (pa_cons pe_int pa_nil))) po_none (po_some pe_int)) pa_nil)) (pg_tup rfl (pgs_cons (pg_name (i := 1) sc_law.nd rfl (.inl rfl)) (pgs_cons (pg_name (i := 2) sc_law.nd rfl (.inl rfl)) pgs_nil))) (
        (pss_cons (ps_set (i := 3) sc_law.nd rfl (.inl rfl) (pe_call G_law_mixed (hr.mono (by decide)) (by rfl) T.g_law_mixed T.F_law_mixed.kp T.b_law_mixed .nil pass0 (pa_cons (pv 2) (pa_cons (pv 1) pa_nil)))) 
        (pss_cons (ps_set (i := 4) sc_law.nd rfl (.inl rfl) (pe_ix (kix_list (K := K) rfl) (pe_lst (pa_cons pe_non (pa_cons pe_bl (pa_cons pe_bl (pa_cons pe_str (pa_cons (pe_lst (pa_cons pe_int pa_nil)) (pa_cons (pe_tup (pa_cons pe_int pa_nil)) (pa_cons (pe_un un_neg pe_int) (pa_cons (pe_op op_sub (pe_un un_neg pe_int) (pe_op op_mod (pe_op op_fdivA (pv 3) pe_int) (pe_op op_pow pe_int pe_int))) pa_nil))))))))) (pe_op op_mod (pv 3) pe_int) (fun _ _ => rfl))) 
        (pss_cons (ps_set (i := 5) sc_law.nd rfl (.inl rfl) (pe_op op_add pe_int (pe_op op_mod (pe_op op_fdivA (pv 3) pe_int) pe_int))) 
        (pss_cons (ps_set (i := 6) sc_law.nd rfl (.inl rfl) (pe_call G_law_number_by (hr.mono (by decide)) (by rfl) T.g_law_number_by T.F_law_number_by.kp T.b_law_number_by .nil pass0 (pa_cons (pe_call G_law_mixed (hr.mono (by decide)) (by rfl) T.g_law_mixed T.F_law_mixed.kp T.b_law_mixed .nil pass0 (pa_cons (pv 2) (pa_cons (pe_op op_add pe_int (pv 1)) pa_nil))) (pa_cons pe_int pa_nil)))) 
        (pss_cons (ps_if (pt_not (pt_val (pe_call G_law_numbers_right hr (by rfl) T.g_law_numbers_right T.F_law_numbers_right.kp T.b_law_numbers_right .nil pass0 (pa_cons (pv 4) (pa_cons (pe_op op_mulA (pv 5) (pv 5)) (pa_cons (pv 6) pa_nil)))))) (
          (pss_one (ps_ret pe_bl))) (pss_nil)) 
        (pss_one (ps_if (pt_not (pt_val (pe_call G_law_seconds_right hr (by rfl) T.g_law_seconds_right T.F_law_seconds_right.kp T.b_law_seconds_right .nil pass0 (pa_cons (pv 4) (pa_cons (pe_op op_mulA (pv 5) (pv 5)) (pa_cons (pv 6) (pa_cons (pe_call G_law_mixed (hr.mono (by decide)) (by rfl) T.g_law_mixed T.F_law_mixed.kp T.b_law_mixed .nil pass0 (pa_cons (pv 2) (pa_cons (pe_op op_add pe_int (pv 1)) pa_nil))) pa_nil))))))) (
          (pss_one (ps_ret pe_bl))) (pss_nil)))))))))) 
      (pss_one (ps_ret pe_bl)))), ?_⟩
    refine q_when (b := false) (et_not (a := true) (et_test (ev_call ea_nil spv_law_ends_right))) (fun z => nomatch z) (fun _ H1 e1 => ?_)
    have hS1 := ex_l e1 hS
    refine q_enumN (xs := cutV (ns.map V.int ++ [.int 0]) none (some (6 : Nat))) (el_sliceN (el_catN (ev_var rfl) hS1 (el_lst (ea_cons ev_c ea_nil) (by decide)) (by rw [List.length_map]; show _ + 1 ≤ 100000; omega)) eo_none (eo_some ev_c))
      (fun p k σ' H' => ∃ s1 s2 s3 s4 s5 s6, σ' = [some (.ref a), s1, s2, s3, s4, s5, s6] ∧ H' p = some (.lst (cutV (ns.map V.int ++ [.int 0]) none (some (6 : Nat)))))
      (fun p H1 np e1 hp => ⟨none, none, none, none, none, none, rfl, hp⟩) (fun p k σ' H' _ h => sq_of (by obtain ⟨_, _, _, _, _, _, _, h⟩ := h; exact h)) (fun p k x σ' H' t hx hP ht => ?_) (fun p σ' H' hP => ?_)
    · obtain ⟨s1, s2, s3, s4, s5, s6, rfl, hp⟩ := hP
      obtain ⟨c, rfl, hk⟩ := cells_int hx
      have hk0 : (0 : Int) ≤ (k : Int) := Int.natCast_nonneg _
      have ht2 : upd H' t (.tup [.int (k : Int), .int c]) p = some (.lst (cutV (ns.map V.int ++ [.int 0]) none (some (6 : Nat)))) := by
        rw [upd_ne (ne_of_none hp ht)]; exact hp
      generalize upd H' t (.tup [.int (k : Int), .int c]) = H0 at ht2
      refine q_asg (v := .int (mixed c k)) (by walk_at "ev") fun H2 e2 => ?_
      have m0 := mixed_lo c k
      have m1 := mixed_hi c k
      generalize mixed c k = m at m0 m1
      have d80 := Int.emod_nonneg m (show (8 : Int) ≠ 0 by decide)
      have d81 := Int.emod_lt_of_pos m (show (0 : Int) < 8 by decide)
      obtain ⟨j, hj⟩ : ∃ j : Nat, m % 8 = (j : Int) := ⟨(m % 8).toNat, by omega⟩
      obtain ⟨od, hod, hodd⟩ := odds_at (m := m) (j := j) (by omega)
      refine q_asgD (d := od) (ed_ixL (ds := odds m) (n := j) ?_ (ev_mod (ev_var rfl) ev_c (by decide)) hj hod) fun v4 H3 e3 h4 => ?_
      · unfold odds
        exact ed_lst (ea_consD ed_non (ea_consD ed_bl (ea_consD ed_bl (ea_consD ed_str (ea_consD (by walk_at "ed") (ea_consD (by walk_at "ed") (ea_consD (ed_int (ev_neg ev_c)) (ea_consD (ed_int (ev_sub (ev_neg ev_c) (ev_mod (ev_div (ev_var rfl) ev_c ⟨by omega, .inl (by omega)⟩) (ev_pow ev_c ev_c ⟨by omega, by omega, by decide⟩) (by rw [p9]; decide)))) ea_nilD))))))))
      have s0 := Int.emod_nonneg (m / 8) (show (315 : Int) ≠ 0 by decide)
      have s1' := Int.emod_lt_of_pos (m / 8) (show (0 : Int) < 315 by decide)
      obtain ⟨hn, hle⟩ := byN_ok (x := mixed c (70 + k)) (most := 3000) (by decide) (by rw [rt3000]; decide)
      have hsq : Squ ((2 + m / 8 % 315) * (2 + m / 8 % 315)) := by
        have a := sq_le (show (0 : Int) ≤ 2 by decide) (show 2 ≤ 2 + m / 8 % 315 by omega)
        have b := sq_le (show (0 : Int) ≤ 2 + m / 8 % 315 by omega) (show 2 + m / 8 % 315 ≤ 316 by omega)
        exact ⟨by omega, by omega, by rw [rt_sq (by omega)]⟩
      refine q_asg (v := .int (2 + m / 8 % 315)) (by walk_at "ev") fun H4 e4 => ?_
      have sd0 : 0 ≤ 2 + m / 8 % 315 := by omega
      have sd1 : 2 + m / 8 % 315 ≤ 316 := by omega
      generalize 2 + m / 8 % 315 = sd at hsq sd0 sd1
      refine q_asg (v := .int (byN (mixed c (70 + k)) 3000)) (by walk_at "ev") fun H5 e5 => ?_
      generalize byN (mixed c (70 + k)) 3000 = g at hn hle
      have h5 := h4.mono (e4.trans e5)
      have p5 := e5 _ _ (e4 _ _ (e3 _ _ (e2 _ _ ht2)))
      have q0 := mixed_lo c (140 + k)
      have q1 := mixed_hi c (140 + k)
      refine q_when (b := false) (et_not (a := true) (et_test (ev_call (ea_cons (ev_var rfl) (ea_cons (ev_mul (ev_var rfl) (ev_var rfl) (mulL (by omega) (by omega))) (ea_cons (ev_var rfl) ea_nil))) fun H6 e6 Q' q' E' => ⟨od, v4, _, g, rfl, h5.mono e6, hodd, hsq, hn, hle, q'⟩))) (fun z => nomatch z) (fun _ H6 e6 => ?_)
      refine s_when (b := false) (et_not (a := true) (et_test (ev_call (ea_cons (ev_var rfl) (ea_cons (ev_mul (ev_var rfl) (ev_var rfl) (mulL (by omega) (by omega))) (ea_cons (ev_var rfl) (ea_cons (ev_call (ea_cons (ev_var rfl) (ea_cons (ev_add ev_c (ev_var rfl)) ea_nil)) (spv_law_mixed (by omega) (by omega))) ea_nil)))) fun H7 e7 Q' q' E' => ⟨od, v4, _, g, _, rfl, h5.mono (e6.trans e7), hodd, hsq, hn, hle, q0, by omega, q'⟩))) (fun z => nomatch z) (fun _ H7 e7 => ?_)
      exact ⟨_, _, _, _, _, _, rfl, e7 _ _ (e6 _ _ p5)⟩
    · exact s_ret ev_c fun H2 _ => q H2

end
theorem all_mk {l : PySem.W.OpenLaw} {w : World} {K : PySem.W.Frag} {h : Heap} {mg : Str → Option Value} {fa f_is_number f_quotient_round f_climb f_is_odd f_law_mixed f_law_root f_law_name f_whole_root f_check_any f_check_between f_law_number_by f_is_square f_check_number f_check_pair f_check_root f_ladder f_worth f_times f_fractions f_whole_turn f_least_less_one f_stretched f_least_one f_reach f_ones f_law_asked f_law_said f_law_numbers_right f_law_seconds_right f_law_ends_right f_law : Addr} (X : K.In h) (G : h.Ns mainGlobals mg) (hfa : mg "law" = some (.ref fa))
    {cE cN cR : Addr}
    {t_fractions : Addr} {u_fractions : Tok} {to_fractions : Value} {td_fractions : Option Addr} {tn_fractions : Nat} {ts_fractions : Array (Option Value)}
    {t_ones : Addr} {u_ones : Tok} {to_ones : Value} {td_ones : Option Addr} {tn_ones : Nat} {ts_ones : Array (Option Value)}
    {od_is_number an_is_number od_quotient_round an_quotient_round od_climb an_climb od_is_odd an_is_odd od_law_mixed an_law_mixed od_law_root an_law_root od_law_name an_law_name od_whole_root an_whole_root od_check_any an_check_any od_check_between an_check_between od_law_number_by an_law_number_by od_is_square an_is_square od_check_number an_check_number od_check_pair an_check_pair od_check_root an_check_root od_ladder an_ladder od_worth an_worth od_times an_times od_fractions an_fractions od_whole_turn an_whole_turn od_least_less_one an_least_less_one od_stretched an_stretched od_least_one an_least_one od_reach an_reach od_ones an_ones od_law_asked an_law_asked od_law_said an_law_said od_law_numbers_right an_law_numbers_right od_law_seconds_right an_law_seconds_right od_law_ends_right an_law_ends_right od_law an_law : Option Addr} {sl_is_number sl_quotient_round sl_climb sl_is_odd sl_law_mixed sl_law_root sl_law_name sl_whole_root sl_check_any sl_check_between sl_law_number_by sl_is_square sl_check_number sl_check_pair sl_check_root sl_ladder sl_worth sl_times sl_fractions sl_whole_turn sl_least_less_one sl_stretched sl_least_one sl_reach sl_ones sl_law_asked sl_law_said sl_law_numbers_right sl_law_seconds_right sl_law_ends_right sl_law : Array (Option Value)} {oc_is_number kV_is_number dc_is_number pm_is_number cd_is_number ct_is_number oc_quotient_round kV_quotient_round dc_quotient_round pm_quotient_round cd_quotient_round ct_quotient_round oc_climb kV_climb dc_climb pm_climb cd_climb ct_climb oc_is_odd kV_is_odd dc_is_odd pm_is_odd cd_is_odd ct_is_odd oc_law_mixed kV_law_mixed dc_law_mixed pm_law_mixed cd_law_mixed ct_law_mixed oc_law_root kV_law_root dc_law_root pm_law_root cd_law_root ct_law_root oc_law_name kV_law_name dc_law_name pm_law_name cd_law_name ct_law_name oc_whole_root kV_whole_root dc_whole_root pm_whole_root cd_whole_root ct_whole_root oc_check_any kV_check_any dc_check_any pm_check_any cd_check_any ct_check_any oc_check_between kV_check_between dc_check_between pm_check_between cd_check_between ct_check_between oc_law_number_by kV_law_number_by dc_law_number_by pm_law_number_by cd_law_number_by ct_law_number_by oc_is_square kV_is_square dc_is_square pm_is_square cd_is_square ct_is_square oc_check_number kV_check_number dc_check_number pm_check_number cd_check_number ct_check_number oc_check_pair kV_check_pair dc_check_pair pm_check_pair cd_check_pair ct_check_pair oc_check_root kV_check_root dc_check_root pm_check_root cd_check_root ct_check_root oc_ladder kV_ladder dc_ladder pm_ladder cd_ladder ct_ladder oc_worth kV_worth dc_worth pm_worth cd_worth ct_worth oc_times kV_times dc_times pm_times cd_times ct_times oc_fractions kV_fractions dc_fractions pm_fractions cd_fractions ct_fractions oc_whole_turn kV_whole_turn dc_whole_turn pm_whole_turn cd_whole_turn ct_whole_turn oc_least_less_one kV_least_less_one dc_least_less_one pm_least_less_one cd_least_less_one ct_least_less_one oc_stretched kV_stretched dc_stretched pm_stretched cd_stretched ct_stretched oc_least_one kV_least_one dc_least_one pm_least_one cd_least_one ct_least_one oc_reach kV_reach dc_reach pm_reach cd_reach ct_reach oc_ones kV_ones dc_ones pm_ones cd_ones ct_ones oc_law_asked kV_law_asked dc_law_asked pm_law_asked cd_law_asked ct_law_asked oc_law_said kV_law_said dc_law_said pm_law_said cd_law_said ct_law_said oc_law_numbers_right kV_law_numbers_right dc_law_numbers_right pm_law_numbers_right cd_law_numbers_right ct_law_numbers_right oc_law_seconds_right kV_law_seconds_right dc_law_seconds_right pm_law_seconds_right cd_law_seconds_right ct_law_seconds_right oc_law_ends_right kV_law_ends_right dc_law_ends_right pm_law_ends_right cd_law_ends_right ct_law_ends_right oc_law kV_law dc_law pm_law cd_law ct_law : Value}
    (a_is_number : PySem.W.nsIn K mainGlobals "is_number" = some (some (.ref f_is_number))) (l_is_number : K.lookup f_is_number = some ⟨oc_is_number, od_is_number, .func (PySem.W.fnOf "is_number" "is_number" (defArgs s_is_number) (defBody s_is_number) (defScope s_is_number) .none kV_is_number dc_is_number pm_is_number an_is_number cd_is_number ct_is_number), sl_is_number⟩) (c_is_number : PySem.W.codeIn K cd_is_number "is_number" = true) (k_is_number : PySem.W.keepIn K (.ref f_is_number) = true)
    (a_quotient_round : PySem.W.nsIn K mainGlobals "quotient_round" = some (some (.ref f_quotient_round))) (l_quotient_round : K.lookup f_quotient_round = some ⟨oc_quotient_round, od_quotient_round, .func (PySem.W.fnOf "quotient_round" "quotient_round" (defArgs s_quotient_round) (defBody s_quotient_round) (defScope s_quotient_round) .none kV_quotient_round dc_quotient_round pm_quotient_round an_quotient_round cd_quotient_round ct_quotient_round), sl_quotient_round⟩) (c_quotient_round : PySem.W.codeIn K cd_quotient_round "quotient_round" = true) (k_quotient_round : PySem.W.keepIn K (.ref f_quotient_round) = true)
    (a_climb : PySem.W.nsIn K mainGlobals "climb" = some (some (.ref f_climb))) (l_climb : K.lookup f_climb = some ⟨oc_climb, od_climb, .func (PySem.W.fnOf "climb" "climb" (defArgs s_climb) (defBody s_climb) (defScope s_climb) .none kV_climb dc_climb pm_climb an_climb cd_climb ct_climb), sl_climb⟩) (c_climb : PySem.W.codeIn K cd_climb "climb" = true) (k_climb : PySem.W.keepIn K (.ref f_climb) = true)
    (a_is_odd : PySem.W.nsIn K mainGlobals "is_odd" = some (some (.ref f_is_odd))) (l_is_odd : K.lookup f_is_odd = some ⟨oc_is_odd, od_is_odd, .func (PySem.W.fnOf "is_odd" "is_odd" (defArgs s_is_odd) (defBody s_is_odd) (defScope s_is_odd) .none kV_is_odd dc_is_odd pm_is_odd an_is_odd cd_is_odd ct_is_odd), sl_is_odd⟩) (c_is_odd : PySem.W.codeIn K cd_is_odd "is_odd" = true) (k_is_odd : PySem.W.keepIn K (.ref f_is_odd) = true)
    (a_law_mixed : PySem.W.nsIn K mainGlobals "_law_mixed" = some (some (.ref f_law_mixed))) (l_law_mixed : K.lookup f_law_mixed = some ⟨oc_law_mixed, od_law_mixed, .func (PySem.W.fnOf "_law_mixed" "_law_mixed" (defArgs s_law_mixed) (defBody s_law_mixed) (defScope s_law_mixed) .none kV_law_mixed dc_law_mixed pm_law_mixed an_law_mixed cd_law_mixed ct_law_mixed), sl_law_mixed⟩) (c_law_mixed : PySem.W.codeIn K cd_law_mixed "_law_mixed" = true) (k_law_mixed : PySem.W.keepIn K (.ref f_law_mixed) = true)
    (a_law_root : PySem.W.nsIn K mainGlobals "_law_root" = some (some (.ref f_law_root))) (l_law_root : K.lookup f_law_root = some ⟨oc_law_root, od_law_root, .func (PySem.W.fnOf "_law_root" "_law_root" (defArgs s_law_root) (defBody s_law_root) (defScope s_law_root) .none kV_law_root dc_law_root pm_law_root an_law_root cd_law_root ct_law_root), sl_law_root⟩) (c_law_root : PySem.W.codeIn K cd_law_root "_law_root" = true) (k_law_root : PySem.W.keepIn K (.ref f_law_root) = true)
    (a_law_name : PySem.W.nsIn K mainGlobals "_law_name" = some (some (.ref f_law_name))) (l_law_name : K.lookup f_law_name = some ⟨oc_law_name, od_law_name, .func (PySem.W.fnOf "_law_name" "_law_name" (defArgs s_law_name) (defBody s_law_name) (defScope s_law_name) .none kV_law_name dc_law_name pm_law_name an_law_name cd_law_name ct_law_name), sl_law_name⟩) (c_law_name : PySem.W.codeIn K cd_law_name "_law_name" = true) (k_law_name : PySem.W.keepIn K (.ref f_law_name) = true)
    (a_whole_root : PySem.W.nsIn K mainGlobals "whole_root" = some (some (.ref f_whole_root))) (l_whole_root : K.lookup f_whole_root = some ⟨oc_whole_root, od_whole_root, .func (PySem.W.fnOf "whole_root" "whole_root" (defArgs s_whole_root) (defBody s_whole_root) (defScope s_whole_root) .none kV_whole_root dc_whole_root pm_whole_root an_whole_root cd_whole_root ct_whole_root), sl_whole_root⟩) (c_whole_root : PySem.W.codeIn K cd_whole_root "whole_root" = true) (k_whole_root : PySem.W.keepIn K (.ref f_whole_root) = true)
    (a_check_any : PySem.W.nsIn K mainGlobals "check_any" = some (some (.ref f_check_any))) (l_check_any : K.lookup f_check_any = some ⟨oc_check_any, od_check_any, .func (PySem.W.fnOf "check_any" "check_any" (defArgs s_check_any) (defBody s_check_any) (defScope s_check_any) .none kV_check_any dc_check_any pm_check_any an_check_any cd_check_any ct_check_any), sl_check_any⟩) (c_check_any : PySem.W.codeIn K cd_check_any "check_any" = true) (k_check_any : PySem.W.keepIn K (.ref f_check_any) = true)
    (a_check_between : PySem.W.nsIn K mainGlobals "check_between" = some (some (.ref f_check_between))) (l_check_between : K.lookup f_check_between = some ⟨oc_check_between, od_check_between, .func (PySem.W.fnOf "check_between" "check_between" (defArgs s_check_between) (defBody s_check_between) (defScope s_check_between) .none kV_check_between dc_check_between pm_check_between an_check_between cd_check_between ct_check_between), sl_check_between⟩) (c_check_between : PySem.W.codeIn K cd_check_between "check_between" = true) (k_check_between : PySem.W.keepIn K (.ref f_check_between) = true)
    (a_law_number_by : PySem.W.nsIn K mainGlobals "_law_number_by" = some (some (.ref f_law_number_by))) (l_law_number_by : K.lookup f_law_number_by = some ⟨oc_law_number_by, od_law_number_by, .func (PySem.W.fnOf "_law_number_by" "_law_number_by" (defArgs s_law_number_by) (defBody s_law_number_by) (defScope s_law_number_by) .none kV_law_number_by dc_law_number_by pm_law_number_by an_law_number_by cd_law_number_by ct_law_number_by), sl_law_number_by⟩) (c_law_number_by : PySem.W.codeIn K cd_law_number_by "_law_number_by" = true) (k_law_number_by : PySem.W.keepIn K (.ref f_law_number_by) = true)
    (a_is_square : PySem.W.nsIn K mainGlobals "is_square" = some (some (.ref f_is_square))) (l_is_square : K.lookup f_is_square = some ⟨oc_is_square, od_is_square, .func (PySem.W.fnOf "is_square" "is_square" (defArgs s_is_square) (defBody s_is_square) (defScope s_is_square) .none kV_is_square dc_is_square pm_is_square an_is_square cd_is_square ct_is_square), sl_is_square⟩) (c_is_square : PySem.W.codeIn K cd_is_square "is_square" = true) (k_is_square : PySem.W.keepIn K (.ref f_is_square) = true)
    (a_check_number : PySem.W.nsIn K mainGlobals "check_number" = some (some (.ref f_check_number))) (l_check_number : K.lookup f_check_number = some ⟨oc_check_number, od_check_number, .func (PySem.W.fnOf "check_number" "check_number" (defArgs s_check_number) (defBody s_check_number) (defScope s_check_number) .none kV_check_number dc_check_number pm_check_number an_check_number cd_check_number ct_check_number), sl_check_number⟩) (c_check_number : PySem.W.codeIn K cd_check_number "check_number" = true) (k_check_number : PySem.W.keepIn K (.ref f_check_number) = true)
    (a_check_pair : PySem.W.nsIn K mainGlobals "check_pair" = some (some (.ref f_check_pair))) (l_check_pair : K.lookup f_check_pair = some ⟨oc_check_pair, od_check_pair, .func (PySem.W.fnOf "check_pair" "check_pair" (defArgs s_check_pair) (defBody s_check_pair) (defScope s_check_pair) .none kV_check_pair dc_check_pair pm_check_pair an_check_pair cd_check_pair ct_check_pair), sl_check_pair⟩) (c_check_pair : PySem.W.codeIn K cd_check_pair "check_pair" = true) (k_check_pair : PySem.W.keepIn K (.ref f_check_pair) = true)
    (a_check_root : PySem.W.nsIn K mainGlobals "check_root" = some (some (.ref f_check_root))) (l_check_root : K.lookup f_check_root = some ⟨oc_check_root, od_check_root, .func (PySem.W.fnOf "check_root" "check_root" (defArgs s_check_root) (defBody s_check_root) (defScope s_check_root) .none kV_check_root dc_check_root pm_check_root an_check_root cd_check_root ct_check_root), sl_check_root⟩) (c_check_root : PySem.W.codeIn K cd_check_root "check_root" = true) (k_check_root : PySem.W.keepIn K (.ref f_check_root) = true)
    (a_ladder : PySem.W.nsIn K mainGlobals "ladder" = some (some (.ref f_ladder))) (l_ladder : K.lookup f_ladder = some ⟨oc_ladder, od_ladder, .func (PySem.W.fnOf "ladder" "ladder" (defArgs s_ladder) (defBody s_ladder) (defScope s_ladder) .none kV_ladder dc_ladder pm_ladder an_ladder cd_ladder ct_ladder), sl_ladder⟩) (c_ladder : PySem.W.codeIn K cd_ladder "ladder" = true) (k_ladder : PySem.W.keepIn K (.ref f_ladder) = true)
    (a_worth : PySem.W.nsIn K mainGlobals "worth" = some (some (.ref f_worth))) (l_worth : K.lookup f_worth = some ⟨oc_worth, od_worth, .func (PySem.W.fnOf "worth" "worth" (defArgs s_worth) (defBody s_worth) (defScope s_worth) .none kV_worth dc_worth pm_worth an_worth cd_worth ct_worth), sl_worth⟩) (c_worth : PySem.W.codeIn K cd_worth "worth" = true) (k_worth : PySem.W.keepIn K (.ref f_worth) = true)
    (a_times : PySem.W.nsIn K mainGlobals "times" = some (some (.ref f_times))) (l_times : K.lookup f_times = some ⟨oc_times, od_times, .func (PySem.W.fnOf "times" "times" (defArgs s_times) (defBody s_times) (defScope s_times) .none kV_times dc_times pm_times an_times cd_times ct_times), sl_times⟩) (c_times : PySem.W.codeIn K cd_times "times" = true) (k_times : PySem.W.keepIn K (.ref f_times) = true)
    (a_fractions : PySem.W.nsIn K mainGlobals "fractions" = some (some (.ref f_fractions))) (l_fractions : K.lookup f_fractions = some ⟨oc_fractions, od_fractions, .func (PySem.W.fnOf "fractions" "fractions" (defArgs s_fractions) (defBody s_fractions) (defScope s_fractions) (.ref t_fractions) kV_fractions dc_fractions pm_fractions an_fractions cd_fractions ct_fractions), sl_fractions⟩) (c_fractions : PySem.W.codeIn K cd_fractions "fractions" = true) (k_fractions : PySem.W.keepIn K (.ref f_fractions) = true)
    (m_fractions : K.lookup t_fractions = some ⟨to_fractions, td_fractions, .seq [.int 10 u_fractions].toArray tn_fractions, ts_fractions⟩)
    (a_whole_turn : PySem.W.nsIn K mainGlobals "whole_turn" = some (some (.ref f_whole_turn))) (l_whole_turn : K.lookup f_whole_turn = some ⟨oc_whole_turn, od_whole_turn, .func (PySem.W.fnOf "whole_turn" "whole_turn" (defArgs s_whole_turn) (defBody s_whole_turn) (defScope s_whole_turn) .none kV_whole_turn dc_whole_turn pm_whole_turn an_whole_turn cd_whole_turn ct_whole_turn), sl_whole_turn⟩) (c_whole_turn : PySem.W.codeIn K cd_whole_turn "whole_turn" = true) (k_whole_turn : PySem.W.keepIn K (.ref f_whole_turn) = true)
    (a_least_less_one : PySem.W.nsIn K mainGlobals "least_less_one" = some (some (.ref f_least_less_one))) (l_least_less_one : K.lookup f_least_less_one = some ⟨oc_least_less_one, od_least_less_one, .func (PySem.W.fnOf "least_less_one" "least_less_one" (defArgs s_least_less_one) (defBody s_least_less_one) (defScope s_least_less_one) .none kV_least_less_one dc_least_less_one pm_least_less_one an_least_less_one cd_least_less_one ct_least_less_one), sl_least_less_one⟩) (c_least_less_one : PySem.W.codeIn K cd_least_less_one "least_less_one" = true) (k_least_less_one : PySem.W.keepIn K (.ref f_least_less_one) = true)
    (a_stretched : PySem.W.nsIn K mainGlobals "stretched" = some (some (.ref f_stretched))) (l_stretched : K.lookup f_stretched = some ⟨oc_stretched, od_stretched, .func (PySem.W.fnOf "stretched" "stretched" (defArgs s_stretched) (defBody s_stretched) (defScope s_stretched) .none kV_stretched dc_stretched pm_stretched an_stretched cd_stretched ct_stretched), sl_stretched⟩) (c_stretched : PySem.W.codeIn K cd_stretched "stretched" = true) (k_stretched : PySem.W.keepIn K (.ref f_stretched) = true)
    (a_least_one : PySem.W.nsIn K mainGlobals "least_one" = some (some (.ref f_least_one))) (l_least_one : K.lookup f_least_one = some ⟨oc_least_one, od_least_one, .func (PySem.W.fnOf "least_one" "least_one" (defArgs s_least_one) (defBody s_least_one) (defScope s_least_one) .none kV_least_one dc_least_one pm_least_one an_least_one cd_least_one ct_least_one), sl_least_one⟩) (c_least_one : PySem.W.codeIn K cd_least_one "least_one" = true) (k_least_one : PySem.W.keepIn K (.ref f_least_one) = true)
    (a_reach : PySem.W.nsIn K mainGlobals "reach" = some (some (.ref f_reach))) (l_reach : K.lookup f_reach = some ⟨oc_reach, od_reach, .func (PySem.W.fnOf "reach" "reach" (defArgs s_reach) (defBody s_reach) (defScope s_reach) .none kV_reach dc_reach pm_reach an_reach cd_reach ct_reach), sl_reach⟩) (c_reach : PySem.W.codeIn K cd_reach "reach" = true) (k_reach : PySem.W.keepIn K (.ref f_reach) = true)
    (a_ones : PySem.W.nsIn K mainGlobals "ones" = some (some (.ref f_ones))) (l_ones : K.lookup f_ones = some ⟨oc_ones, od_ones, .func (PySem.W.fnOf "ones" "ones" (defArgs s_ones) (defBody s_ones) (defScope s_ones) (.ref t_ones) kV_ones dc_ones pm_ones an_ones cd_ones ct_ones), sl_ones⟩) (c_ones : PySem.W.codeIn K cd_ones "ones" = true) (k_ones : PySem.W.keepIn K (.ref f_ones) = true)
    (m_ones : K.lookup t_ones = some ⟨to_ones, td_ones, .seq [.int 5 u_ones].toArray tn_ones, ts_ones⟩)
    (a_law_asked : PySem.W.nsIn K mainGlobals "_law_asked" = some (some (.ref f_law_asked))) (l_law_asked : K.lookup f_law_asked = some ⟨oc_law_asked, od_law_asked, .func (PySem.W.fnOf "_law_asked" "_law_asked" (defArgs s_law_asked) (defBody s_law_asked) (defScope s_law_asked) .none kV_law_asked dc_law_asked pm_law_asked an_law_asked cd_law_asked ct_law_asked), sl_law_asked⟩) (c_law_asked : PySem.W.codeIn K cd_law_asked "_law_asked" = true) (k_law_asked : PySem.W.keepIn K (.ref f_law_asked) = true)
    (a_law_said : PySem.W.nsIn K mainGlobals "_law_said" = some (some (.ref f_law_said))) (l_law_said : K.lookup f_law_said = some ⟨oc_law_said, od_law_said, .func (PySem.W.fnOf "_law_said" "_law_said" (defArgs s_law_said) (defBody s_law_said) (defScope s_law_said) .none kV_law_said dc_law_said pm_law_said an_law_said cd_law_said ct_law_said), sl_law_said⟩) (c_law_said : PySem.W.codeIn K cd_law_said "_law_said" = true) (k_law_said : PySem.W.keepIn K (.ref f_law_said) = true)
    (a_law_numbers_right : PySem.W.nsIn K mainGlobals "_law_numbers_right" = some (some (.ref f_law_numbers_right))) (l_law_numbers_right : K.lookup f_law_numbers_right = some ⟨oc_law_numbers_right, od_law_numbers_right, .func (PySem.W.fnOf "_law_numbers_right" "_law_numbers_right" (defArgs s_law_numbers_right) (defBody s_law_numbers_right) (defScope s_law_numbers_right) .none kV_law_numbers_right dc_law_numbers_right pm_law_numbers_right an_law_numbers_right cd_law_numbers_right ct_law_numbers_right), sl_law_numbers_right⟩) (c_law_numbers_right : PySem.W.codeIn K cd_law_numbers_right "_law_numbers_right" = true) (k_law_numbers_right : PySem.W.keepIn K (.ref f_law_numbers_right) = true)
    (a_law_seconds_right : PySem.W.nsIn K mainGlobals "_law_seconds_right" = some (some (.ref f_law_seconds_right))) (l_law_seconds_right : K.lookup f_law_seconds_right = some ⟨oc_law_seconds_right, od_law_seconds_right, .func (PySem.W.fnOf "_law_seconds_right" "_law_seconds_right" (defArgs s_law_seconds_right) (defBody s_law_seconds_right) (defScope s_law_seconds_right) .none kV_law_seconds_right dc_law_seconds_right pm_law_seconds_right an_law_seconds_right cd_law_seconds_right ct_law_seconds_right), sl_law_seconds_right⟩) (c_law_seconds_right : PySem.W.codeIn K cd_law_seconds_right "_law_seconds_right" = true) (k_law_seconds_right : PySem.W.keepIn K (.ref f_law_seconds_right) = true)
    (a_law_ends_right : PySem.W.nsIn K mainGlobals "_law_ends_right" = some (some (.ref f_law_ends_right))) (l_law_ends_right : K.lookup f_law_ends_right = some ⟨oc_law_ends_right, od_law_ends_right, .func (PySem.W.fnOf "_law_ends_right" "_law_ends_right" (defArgs s_law_ends_right) (defBody s_law_ends_right) (defScope s_law_ends_right) .none kV_law_ends_right dc_law_ends_right pm_law_ends_right an_law_ends_right cd_law_ends_right ct_law_ends_right), sl_law_ends_right⟩) (c_law_ends_right : PySem.W.codeIn K cd_law_ends_right "_law_ends_right" = true) (k_law_ends_right : PySem.W.keepIn K (.ref f_law_ends_right) = true)
    (a_law : PySem.W.nsIn K mainGlobals "law" = some (some (.ref f_law))) (l_law : K.lookup f_law = some ⟨oc_law, od_law, .func (PySem.W.fnOf "law" "law" (defArgs s_law) (defBody s_law) (defScope s_law) .none kV_law dc_law pm_law an_law cd_law ct_law), sl_law⟩) (c_law : PySem.W.codeIn K cd_law "law" = true) (k_law : PySem.W.keepIn K (.ref f_law) = true)
    (z_ValueError : PySem.W.nsIn K mainGlobals "ValueError" = some none)
    (z_bool : PySem.W.nsIn K mainGlobals "bool" = some none)
    (z_enumerate : PySem.W.nsIn K mainGlobals "enumerate" = some none)
    (z_int : PySem.W.nsIn K mainGlobals "int" = some none)
    (z_isinstance : PySem.W.nsIn K mainGlobals "isinstance" = some none)
    (z_len : PySem.W.nsIn K mainGlobals "len" = some none)
    (z_range : PySem.W.nsIn K mainGlobals "range" = some none)
    (z_tuple : PySem.W.nsIn K mainGlobals "tuple" = some none)
    {t_GREATEST_NUMBER : Tok} (g_GREATEST_NUMBER : PySem.W.nsIn K mainGlobals "GREATEST_NUMBER" = some (some (.int 100000 t_GREATEST_NUMBER)))
    {t_LEAST_NUMBER : Tok} (g_LEAST_NUMBER : PySem.W.nsIn K mainGlobals "LEAST_NUMBER" = some (some (.int 2 t_LEAST_NUMBER)))
    {t_MOST_FRACTIONS : Tok} (g_MOST_FRACTIONS : PySem.W.nsIn K mainGlobals "MOST_FRACTIONS" = some (some (.int 200 t_MOST_FRACTIONS)))
    {t_MOST_ONES : Tok} (g_MOST_ONES : PySem.W.nsIn K mainGlobals "MOST_ONES" = some (some (.int 20 t_MOST_ONES)))
    (g_isqrt : PySem.W.nsIn K mainGlobals "isqrt" = some (some (.builtin "math.isqrt")))
    (g_RootError : PySem.W.nsIn K mainGlobals "RootError" = some (some (.ref cE)))
    (g_NoNumber : PySem.W.nsIn K mainGlobals "NoNumber" = some (some (.ref cN)))
    (g_NoRoot : PySem.W.nsIn K mainGlobals "NoRoot" = some (some (.ref cR)))
    (cf_dE : PySem.W.hasDictIn K cE = true)
    (cf_tE : PySem.W.typeIn K (.ref cE) = some (.type "type"))
    (cf_bE : PySem.W.subIn K (.ref cE) (.type "BaseException") = some true)
    (cf_xN : PySem.W.excIn K cN [.type "ValueError", .type "Exception", .type "BaseException", .type "object"] "ValueError.__new__" = true)
    (cf_kN : PySem.W.keepIn K (.ref cN) = true)
    (cf_bN : PySem.W.subIn K (.ref cN) (.type "BaseException") = some true)
    (cf_tN : PySem.W.typeIn K (.ref cN) = some (.type "type"))
    (cf_sNE : PySem.W.subIn K (.ref cN) (.ref cE) = some true)
    (cf_sNV : PySem.W.subIn K (.ref cN) (.type "ValueError") = some true)
    (cf_s0N : PySem.W.subIn K (.type "NoneType") (.ref cN) = some false)
    (cf_sNR : PySem.W.subIn K (.ref cN) (.ref cR) = some false)
    (cf_nNR : (Value.ref cN == Value.ref cR) = false)
    (cf_xR : PySem.W.excIn K cR [.type "ValueError", .type "Exception", .type "BaseException", .type "object"] "ValueError.__new__" = true)
    (cf_kR : PySem.W.keepIn K (.ref cR) = true)
    (cf_bR : PySem.W.subIn K (.ref cR) (.type "BaseException") = some true)
    (cf_tR : PySem.W.typeIn K (.ref cR) = some (.type "type"))
    (cf_sRE : PySem.W.subIn K (.ref cR) (.ref cE) = some true)
    (cf_sRV : PySem.W.subIn K (.ref cR) (.type "ValueError") = some true)
    (cf_s0R : PySem.W.subIn K (.type "NoneType") (.ref cR) = some false)
    (cf_sRN : PySem.W.subIn K (.ref cR) (.ref cN) = some false)
    (cf_nRN : (Value.ref cR == Value.ref cN) = false)
    (cf_hgN : PySem.W.findIn K (.ref cN) "__getattribute__" = some (some (.builtin "BaseException.__getattribute__")))
    (cf_hkN : PySem.W.findIn K (.ref cN) "__getattr__" = some none)
    (cf_hdN : PySem.W.hasDictIn K cN = true)
    (cf_haN : PySem.W.findIn K (.ref cN) "__class__" = some (some (.builtin "object.__class__")))
    (cf_hmN : PySem.W.mroIn K cN (.type "object") = some true)
    (cf_hgR : PySem.W.findIn K (.ref cR) "__getattribute__" = some (some (.builtin "BaseException.__getattribute__")))
    (cf_hkR : PySem.W.findIn K (.ref cR) "__getattr__" = some none)
    (cf_hdR : PySem.W.hasDictIn K cR = true)
    (cf_haR : PySem.W.findIn K (.ref cR) "__class__" = some (some (.builtin "object.__class__")))
    (cf_hmR : PySem.W.mroIn K cR (.type "object") = some true)
    (cf_hn : PySem.W.specialIn K (.builtin "object.__class__") "__get__" = some (some (.builtin "getset_descriptor.__get__")))
    (cf_ht : PySem.W.takesIn K (.builtin "object.__class__") = some true)
    : ∃ fd : FuncData, (∀ (s : Shared) (v : Value), BindsTo s fd ⟨[v], []⟩ [("_law_script", v)]) ∧ ∀ base : Heap, K.In base → base.Ns mainGlobals mg → FnOk l.prog w K mg base CX0 12 fa fd ["_law_script"] (sp_law K) := by
  have e := hfa.symm.trans (PySem.W.mg_of X G a_law)
  cases e
  have F_is_number := fun_mk (st := s_is_number) l_is_number c_is_number k_is_number
  have b_is_number := F_is_number.binds (ps := ["value"]) fun _ _ _ _ _ _ us hl => match us, hl with | [_], _ => rfl
  have F_quotient_round := fun_mk (st := s_quotient_round) l_quotient_round c_quotient_round k_quotient_round
  have b_quotient_round := F_quotient_round.binds (ps := ["number", "whole"]) fun _ _ _ _ _ _ us hl => match us, hl with | [_, _], _ => rfl
  have F_climb := fun_mk (st := s_climb) l_climb c_climb k_climb
  have b_climb := F_climb.binds (ps := ["quotients"]) fun _ _ _ _ _ _ us hl => match us, hl with | [_], _ => rfl
  have F_is_odd := fun_mk (st := s_is_odd) l_is_odd c_is_odd k_is_odd
  have b_is_odd := F_is_odd.binds (ps := ["number"]) fun _ _ _ _ _ _ us hl => match us, hl with | [_], _ => rfl
  have F_law_mixed := fun_mk (st := s_law_mixed) l_law_mixed c_law_mixed k_law_mixed
  have b_law_mixed := F_law_mixed.binds (ps := ["_law_number_here", "_law_k"]) fun _ _ _ _ _ _ us hl => match us, hl with | [_, _], _ => rfl
  have F_law_root := fun_mk (st := s_law_root) l_law_root c_law_root k_law_root
  have b_law_root := F_law_root.binds (ps := ["_law_number_here"]) fun _ _ _ _ _ _ us hl => match us, hl with | [_], _ => rfl
  have F_law_name := fun_mk (st := s_law_name) l_law_name c_law_name k_law_name
  have b_law_name := F_law_name.binds (ps := ["_law_error"]) fun _ _ _ _ _ _ us hl => match us, hl with | [_], _ => rfl
  have F_whole_root := fun_mk (st := s_whole_root) l_whole_root c_whole_root k_whole_root
  have b_whole_root := F_whole_root.binds (ps := ["number"]) fun _ _ _ _ _ _ us hl => match us, hl with | [_], _ => rfl
  have F_check_any := fun_mk (st := s_check_any) l_check_any c_check_any k_check_any
  have b_check_any := F_check_any.binds (ps := ["value"]) fun _ _ _ _ _ _ us hl => match us, hl with | [_], _ => rfl
  have F_check_between := fun_mk (st := s_check_between) l_check_between c_check_between k_check_between
  have b_check_between := F_check_between.binds (ps := ["value", "least", "greatest"]) fun _ _ _ _ _ _ us hl => match us, hl with | [_, _, _], _ => rfl
  have F_law_number_by := fun_mk (st := s_law_number_by) l_law_number_by c_law_number_by k_law_number_by
  have b_law_number_by := F_law_number_by.binds (ps := ["_law_number_here", "_law_most"]) fun _ _ _ _ _ _ us hl => match us, hl with | [_, _], _ => rfl
  have F_is_square := fun_mk (st := s_is_square) l_is_square c_is_square k_is_square
  have b_is_square := F_is_square.binds (ps := ["number"]) fun _ _ _ _ _ _ us hl => match us, hl with | [_], _ => rfl
  have F_check_number := fun_mk (st := s_check_number) l_check_number c_check_number k_check_number
  have b_check_number := F_check_number.binds (ps := ["number"]) fun _ _ _ _ _ _ us hl => match us, hl with | [_], _ => rfl
  have F_check_pair := fun_mk (st := s_check_pair) l_check_pair c_check_pair k_check_pair
  have b_check_pair := F_check_pair.binds (ps := ["value"]) fun _ _ _ _ _ _ us hl => match us, hl with | [_], _ => rfl
  have F_check_root := fun_mk (st := s_check_root) l_check_root c_check_root k_check_root
  have b_check_root := F_check_root.binds (ps := ["number"]) fun _ _ _ _ _ _ us hl => match us, hl with | [_], _ => rfl
  have F_ladder := fun_mk (st := s_ladder) l_ladder c_ladder k_ladder
  have b_ladder := F_ladder.binds (ps := ["number"]) fun _ _ _ _ _ _ us hl => match us, hl with | [_], _ => rfl
  have F_worth := fun_mk (st := s_worth) l_worth c_worth k_worth
  have b_worth := F_worth.binds (ps := ["number", "pair"]) fun _ _ _ _ _ _ us hl => match us, hl with | [_, _], _ => rfl
  have F_times := fun_mk (st := s_times) l_times c_times k_times
  have b_times := F_times.binds (ps := ["number", "one", "other"]) fun _ _ _ _ _ _ us hl => match us, hl with | [_, _, _], _ => rfl
  have F_fractions : FunD K "fractions" "fractions" (defArgs s_fractions) (defBody s_fractions) (defScope s_fractions) [.int 10] [] _ _ := ⟨⟨_, _, _, _, _, _, _, _, _, _, rfl, l_fractions, c_fractions, .inr ⟨by simp, _, _, [.int 10 u_fractions], _, rfl, m_fractions, rfl, (.cons ⟨_, rfl⟩ .nil)⟩, .inl rfl⟩, k_fractions⟩
  obtain ⟨e0_fractions, v0_fractions, b_fractions⟩ := F_fractions.binds1 (ps := ["number", "many"]) 2 1 (by simp) rfl fun _ _ _ _ _ _ _ us its h1 h2 => match us, its, h1, h2 with | [_, _], [_], _, _ => ⟨_, rfl, rfl⟩
  cases v0_fractions
  obtain ⟨e_fractions, v_fractions, bd_fractions⟩ := F_fractions.binds1 (ps := ["number", "many"]) 1 0 (by simp) rfl fun _ _ _ _ _ _ _ us its h1 h2 => match us, its, h1, h2 with | [_], [_], _, _ => ⟨_, rfl, rfl⟩
  have F_whole_turn := fun_mk (st := s_whole_turn) l_whole_turn c_whole_turn k_whole_turn
  have b_whole_turn := F_whole_turn.binds (ps := ["number"]) fun _ _ _ _ _ _ us hl => match us, hl with | [_], _ => rfl
  have F_least_less_one := fun_mk (st := s_least_less_one) l_least_less_one c_least_less_one k_least_less_one
  have b_least_less_one := F_least_less_one.binds (ps := ["number"]) fun _ _ _ _ _ _ us hl => match us, hl with | [_], _ => rfl
  have F_stretched := fun_mk (st := s_stretched) l_stretched c_stretched k_stretched
  have b_stretched := F_stretched.binds (ps := ["number", "fraction", "told"]) fun _ _ _ _ _ _ us hl => match us, hl with | [_, _, _], _ => rfl
  have F_least_one := fun_mk (st := s_least_one) l_least_one c_least_one k_least_one
  have b_least_one := F_least_one.binds (ps := ["number"]) fun _ _ _ _ _ _ us hl => match us, hl with | [_], _ => rfl
  have F_reach := fun_mk (st := s_reach) l_reach c_reach k_reach
  have b_reach := F_reach.binds (ps := ["number", "told"]) fun _ _ _ _ _ _ us hl => match us, hl with | [_, _], _ => rfl
  have F_ones : FunD K "ones" "ones" (defArgs s_ones) (defBody s_ones) (defScope s_ones) [.int 5] [] _ _ := ⟨⟨_, _, _, _, _, _, _, _, _, _, rfl, l_ones, c_ones, .inr ⟨by simp, _, _, [.int 5 u_ones], _, rfl, m_ones, rfl, (.cons ⟨_, rfl⟩ .nil)⟩, .inl rfl⟩, k_ones⟩
  obtain ⟨e0_ones, v0_ones, b_ones⟩ := F_ones.binds1 (ps := ["number", "many"]) 2 1 (by simp) rfl fun _ _ _ _ _ _ _ us its h1 h2 => match us, its, h1, h2 with | [_, _], [_], _, _ => ⟨_, rfl, rfl⟩
  cases v0_ones
  obtain ⟨e_ones, v_ones, bd_ones⟩ := F_ones.binds1 (ps := ["number", "many"]) 1 0 (by simp) rfl fun _ _ _ _ _ _ _ us its h1 h2 => match us, its, h1, h2 with | [_], [_], _, _ => ⟨_, rfl, rfl⟩
  have F_law_asked := fun_mk (st := s_law_asked) l_law_asked c_law_asked k_law_asked
  have b_law_asked := F_law_asked.binds (ps := ["_law_which", "_law_number_here", "_law_second", "_law_third"]) fun _ _ _ _ _ _ us hl => match us, hl with | [_, _, _, _], _ => rfl
  have F_law_said := fun_mk (st := s_law_said) l_law_said c_law_said k_law_said
  have b_law_said := F_law_said.binds (ps := ["_law_which", "_law_number_here", "_law_second", "_law_third"]) fun _ _ _ _ _ _ us hl => match us, hl with | [_, _, _, _], _ => rfl
  have F_law_numbers_right := fun_mk (st := s_law_numbers_right) l_law_numbers_right c_law_numbers_right k_law_numbers_right
  have b_law_numbers_right := F_law_numbers_right.binds (ps := ["_law_odd", "_law_square", "_law_good"]) fun _ _ _ _ _ _ us hl => match us, hl with | [_, _, _], _ => rfl
  have F_law_seconds_right := fun_mk (st := s_law_seconds_right) l_law_seconds_right c_law_seconds_right k_law_seconds_right
  have b_law_seconds_right := F_law_seconds_right.binds (ps := ["_law_odd", "_law_square", "_law_good", "_law_more"]) fun _ _ _ _ _ _ us hl => match us, hl with | [_, _, _, _], _ => rfl
  have F_law_ends_right := fun_mk (st := s_law_ends_right) l_law_ends_right c_law_ends_right k_law_ends_right
  have b_law_ends_right := F_law_ends_right.binds (ps := []) fun _ _ _ _ _ _ us hl => match us, hl with | [], _ => rfl
  have F_law := fun_mk (st := s_law) l_law c_law k_law
  have b_law := F_law.binds (ps := ["_law_script"]) fun _ _ _ _ _ _ us hl => match us, hl with | [_], _ => rfl
  exact ⟨_, fun s v => .of_eq rfl, fun base _ _ => ok_law (P := l.prog) (w := w) (base := base) (T := { a_is_number := _, d_is_number := _, F_is_number := F_is_number, b_is_number := b_is_number, g_is_number := PySem.W.mg_of X G a_is_number, a_quotient_round := _, d_quotient_round := _, F_quotient_round := F_quotient_round, b_quotient_round := b_quotient_round, g_quotient_round := PySem.W.mg_of X G a_quotient_round, a_climb := _, d_climb := _, F_climb := F_climb, b_climb := b_climb, g_climb := PySem.W.mg_of X G a_climb, a_is_odd := _, d_is_odd := _, F_is_odd := F_is_odd, b_is_odd := b_is_odd, g_is_odd := PySem.W.mg_of X G a_is_odd, a_law_mixed := _, d_law_mixed := _, F_law_mixed := F_law_mixed, b_law_mixed := b_law_mixed, g_law_mixed := PySem.W.mg_of X G a_law_mixed, a_law_root := _, d_law_root := _, F_law_root := F_law_root, b_law_root := b_law_root, g_law_root := PySem.W.mg_of X G a_law_root, a_law_name := _, d_law_name := _, F_law_name := F_law_name, b_law_name := b_law_name, g_law_name := PySem.W.mg_of X G a_law_name, a_whole_root := _, d_whole_root := _, F_whole_root := F_whole_root, b_whole_root := b_whole_root, g_whole_root := PySem.W.mg_of X G a_whole_root, a_check_any := _, d_check_any := _, F_check_any := F_check_any, b_check_any := b_check_any, g_check_any := PySem.W.mg_of X G a_check_any, a_check_between := _, d_check_between := _, F_check_between := F_check_between, b_check_between := b_check_between, g_check_between := PySem.W.mg_of X G a_check_between, a_law_number_by := _, d_law_number_by := _, F_law_number_by := F_law_number_by, b_law_number_by := b_law_number_by, g_law_number_by := PySem.W.mg_of X G a_law_number_by, a_is_square := _, d_is_square := _, F_is_square := F_is_square, b_is_square := b_is_square, g_is_square := PySem.W.mg_of X G a_is_square, a_check_number := _, d_check_number := _, F_check_number := F_check_number, b_check_number := b_check_number, g_check_number := PySem.W.mg_of X G a_check_number, a_check_pair := _, d_check_pair := _, F_check_pair := F_check_pair, b_check_pair := b_check_pair, g_check_pair := PySem.W.mg_of X G a_check_pair, a_check_root := _, d_check_root := _, F_check_root := F_check_root, b_check_root := b_check_root, g_check_root := PySem.W.mg_of X G a_check_root, a_ladder := _, d_ladder := _, F_ladder := F_ladder, b_ladder := b_ladder, g_ladder := PySem.W.mg_of X G a_ladder, a_worth := _, d_worth := _, F_worth := F_worth, b_worth := b_worth, g_worth := PySem.W.mg_of X G a_worth, a_times := _, d_times := _, F_times := F_times, b_times := b_times, g_times := PySem.W.mg_of X G a_times, a_fractions := _, d_fractions := _, F_fractions := F_fractions, b_fractions := b_fractions, g_fractions := PySem.W.mg_of X G a_fractions, e_fractions := e_fractions, dv_fractions := v_fractions, bd_fractions := bd_fractions, a_whole_turn := _, d_whole_turn := _, F_whole_turn := F_whole_turn, b_whole_turn := b_whole_turn, g_whole_turn := PySem.W.mg_of X G a_whole_turn, a_least_less_one := _, d_least_less_one := _, F_least_less_one := F_least_less_one, b_least_less_one := b_least_less_one, g_least_less_one := PySem.W.mg_of X G a_least_less_one, a_stretched := _, d_stretched := _, F_stretched := F_stretched, b_stretched := b_stretched, g_stretched := PySem.W.mg_of X G a_stretched, a_least_one := _, d_least_one := _, F_least_one := F_least_one, b_least_one := b_least_one, g_least_one := PySem.W.mg_of X G a_least_one, a_reach := _, d_reach := _, F_reach := F_reach, b_reach := b_reach, g_reach := PySem.W.mg_of X G a_reach, a_ones := _, d_ones := _, F_ones := F_ones, b_ones := b_ones, g_ones := PySem.W.mg_of X G a_ones, e_ones := e_ones, dv_ones := v_ones, bd_ones := bd_ones, a_law_asked := _, d_law_asked := _, F_law_asked := F_law_asked, b_law_asked := b_law_asked, g_law_asked := PySem.W.mg_of X G a_law_asked, a_law_said := _, d_law_said := _, F_law_said := F_law_said, b_law_said := b_law_said, g_law_said := PySem.W.mg_of X G a_law_said, a_law_numbers_right := _, d_law_numbers_right := _, F_law_numbers_right := F_law_numbers_right, b_law_numbers_right := b_law_numbers_right, g_law_numbers_right := PySem.W.mg_of X G a_law_numbers_right, a_law_seconds_right := _, d_law_seconds_right := _, F_law_seconds_right := F_law_seconds_right, b_law_seconds_right := b_law_seconds_right, g_law_seconds_right := PySem.W.mg_of X G a_law_seconds_right, a_law_ends_right := _, d_law_ends_right := _, F_law_ends_right := F_law_ends_right, b_law_ends_right := b_law_ends_right, g_law_ends_right := PySem.W.mg_of X G a_law_ends_right, a_law := _, d_law := _, F_law := F_law, b_law := b_law, g_law := PySem.W.mg_of X G a_law, z_ValueError := PySem.W.mg_none_of X G z_ValueError, z_bool := PySem.W.mg_none_of X G z_bool, z_enumerate := PySem.W.mg_none_of X G z_enumerate, z_int := PySem.W.mg_none_of X G z_int, z_isinstance := PySem.W.mg_none_of X G z_isinstance, z_len := PySem.W.mg_none_of X G z_len, z_range := PySem.W.mg_none_of X G z_range, z_tuple := PySem.W.mg_none_of X G z_tuple, t_GREATEST_NUMBER := _, g_GREATEST_NUMBER := PySem.W.mg_of X G g_GREATEST_NUMBER, t_LEAST_NUMBER := _, g_LEAST_NUMBER := PySem.W.mg_of X G g_LEAST_NUMBER, t_MOST_FRACTIONS := _, g_MOST_FRACTIONS := PySem.W.mg_of X G g_MOST_FRACTIONS, t_MOST_ONES := _, g_MOST_ONES := PySem.W.mg_of X G g_MOST_ONES, g_isqrt := PySem.W.mg_of X G g_isqrt, cE := cE, cN := cN, cR := cR, g_RootError := PySem.W.mg_of X G g_RootError, g_NoNumber := PySem.W.mg_of X G g_NoNumber, g_NoRoot := PySem.W.mg_of X G g_NoRoot, cf := { xN := cf_xN, kN := cf_kN, bN := cf_bN, tN := cf_tN, eN := PySem.W.exm_ref cf_bE cf_dE cf_tE cf_sNE, iNV := kit_bt rfl cf_sNV, i0N := kit_ref rfl cf_hdN cf_tN cf_s0N, iNN := kit_self, iNR := kit_ref cf_nNR cf_hdR cf_tR cf_sNR, xR := cf_xR, kR := cf_kR, bR := cf_bR, tR := cf_tR, eR := PySem.W.exm_ref cf_bE cf_dE cf_tE cf_sRE, iRV := kit_bt rfl cf_sRV, i0R := kit_ref rfl cf_hdR cf_tR cf_s0R, iRR := kit_self, iRN := kit_ref cf_nRN cf_hdN cf_tN cf_sRN, CN := ⟨cf_hgN, cf_hkN, cf_bN, cf_hdN, cf_haN, cf_hn, cf_ht, cf_hmN⟩, CR := ⟨cf_hgR, cf_hkR, cf_bR, cf_hdR, cf_haR, cf_hn, cf_ht, cf_hmR⟩ } })⟩
end K01
open PySem PySem.W PyProof.Rows
set_option maxRecDepth 100000 in
set_option maxHeartbeats 0 in
theorem PySem.Challenge.cw_rootladder_k01_what_is_refused_holds : PySem.Challenge.rw_rootladder_k01_what_is_refused.Holds := by
  w_on; o_law; k_head; (case hw => w_witness2)
  k_fill
  refine L2.walk_of (l := PySem.Challenge.rw_rootladder_k01_what_is_refused) (n := 63) (k := 12) (x := "_law_script") (CX := fun _ => L2.CX0) (sp := fun w => K01.sp_law _) rfl (by decide) rfl ⟨rfl, by decide, by decide⟩ (fun w h Y => PySem.W.kIn_of Y) ?F (fun _ _ a ns hl hb hS => ⟨a, ns, rfl, hS, hl, fun _ => rfl⟩) (fun _ _ _ _ _ h => h)
  case F =>
    intro w mg fa h KX G hmg
    refine' K01.all_mk KX G hmg ?a_is_number ?l_is_number ?c_is_number ?k_is_number ?a_quotient_round ?l_quotient_round ?c_quotient_round ?k_quotient_round ?a_climb ?l_climb ?c_climb ?k_climb ?a_is_odd ?l_is_odd ?c_is_odd ?k_is_odd ?a_law_mixed ?l_law_mixed ?c_law_mixed ?k_law_mixed ?a_law_root ?l_law_root ?c_law_root ?k_law_root ?a_law_name ?l_law_name ?c_law_name ?k_law_name ?a_whole_root ?l_whole_root ?c_whole_root ?k_whole_root ?a_check_any ?l_check_any ?c_check_any ?k_check_any ?a_check_between ?l_check_between ?c_check_between ?k_check_between ?a_law_number_by ?l_law_number_by ?c_law_number_by ?k_law_number_by ?a_is_square ?l_is_square ?c_is_square ?k_is_square ?a_check_number ?l_check_number ?c_check_number ?k_check_number ?a_check_pair ?l_check_pair ?c_check_pair ?k_check_pair ?a_check_root ?l_check_root ?c_check_root ?k_check_root ?a_ladder ?l_ladder ?c_ladder ?k_ladder ?a_worth ?l_worth ?c_worth ?k_worth ?a_times ?l_times ?c_times ?k_times ?a_fractions ?l_fractions ?c_fractions ?k_fractions ?m_fractions ?a_whole_turn ?l_whole_turn ?c_whole_turn ?k_whole_turn ?a_least_less_one ?l_least_less_one ?c_least_less_one ?k_least_less_one ?a_stretched ?l_stretched ?c_stretched ?k_stretched ?a_least_one ?l_least_one ?c_least_one ?k_least_one ?a_reach ?l_reach ?c_reach ?k_reach ?a_ones ?l_ones ?c_ones ?k_ones ?m_ones ?a_law_asked ?l_law_asked ?c_law_asked ?k_law_asked ?a_law_said ?l_law_said ?c_law_said ?k_law_said ?a_law_numbers_right ?l_law_numbers_right ?c_law_numbers_right ?k_law_numbers_right ?a_law_seconds_right ?l_law_seconds_right ?c_law_seconds_right ?k_law_seconds_right ?a_law_ends_right ?l_law_ends_right ?c_law_ends_right ?k_law_ends_right ?a_law ?l_law ?c_law ?k_law ?z_ValueError ?z_bool ?z_enumerate ?z_int ?z_isinstance ?z_len ?z_range ?z_tuple ?g_GREATEST_NUMBER ?g_LEAST_NUMBER ?g_MOST_FRACTIONS ?g_MOST_ONES ?g_isqrt ?g_RootError ?g_NoNumber ?g_NoRoot ?cf_dE ?cf_tE ?cf_bE ?cf_xN ?cf_kN ?cf_bN ?cf_tN ?cf_sNE ?cf_sNV ?cf_s0N ?cf_sNR ?cf_nNR ?cf_xR ?cf_kR ?cf_bR ?cf_tR ?cf_sRE ?cf_sRV ?cf_s0R ?cf_sRN ?cf_nRN ?cf_hgN ?cf_hkN ?cf_hdN ?cf_haN ?cf_hmN ?cf_hgR ?cf_hkR ?cf_hdR ?cf_haR ?cf_hmR ?cf_hn ?cf_ht
    (case a_is_number => k_is)
    (case l_is_number => k_is)
    (case c_is_number => k_is)
    (case k_is_number => k_is)
    (case a_quotient_round => k_is)
    (case l_quotient_round => k_is)
    (case c_quotient_round => k_is)
    (case k_quotient_round => k_is)
    (case a_climb => k_is)
    (case l_climb => k_is)
    (case c_climb => k_is)
    (case k_climb => k_is)
    (case a_is_odd => k_is)
    (case l_is_odd => k_is)
    (case c_is_odd => k_is)
    (case k_is_odd => k_is)
    (case a_law_mixed => k_is)
    (case l_law_mixed => k_is)
    (case c_law_mixed => k_is)
    (case k_law_mixed => k_is)
    (case a_law_root => k_is)
    (case l_law_root => k_is)
    (case c_law_root => k_is)
    (case k_law_root => k_is)
    (case a_law_name => k_is)
    (case l_law_name => k_is)
    (case c_law_name => k_is)
    (case k_law_name => k_is)
    (case a_whole_root => k_is)
    (case l_whole_root => k_is)
    (case c_whole_root => k_is)
    (case k_whole_root => k_is)
    (case a_check_any => k_is)
    (case l_check_any => k_is)
    (case c_check_any => k_is)
    (case k_check_any => k_is)
    (case a_check_between => k_is)
    (case l_check_between => k_is)
    (case c_check_between => k_is)
    (case k_check_between => k_is)
    (case a_law_number_by => k_is)
    (case l_law_number_by => k_is)
    (case c_law_number_by => k_is)
    (case k_law_number_by => k_is)
    (case a_is_square => k_is)
    (case l_is_square => k_is)
    (case c_is_square => k_is)
    (case k_is_square => k_is)
    (case a_check_number => k_is)
    (case l_check_number => k_is)
    (case c_check_number => k_is)
    (case k_check_number => k_is)
    (case a_check_pair => k_is)
    (case l_check_pair => k_is)
    (case c_check_pair => k_is)
    (case k_check_pair => k_is)
    (case a_check_root => k_is)
    (case l_check_root => k_is)
    (case c_check_root => k_is)
    (case k_check_root => k_is)
    (case a_ladder => k_is)
    (case l_ladder => k_is)
    (case c_ladder => k_is)
    (case k_ladder => k_is)
    (case a_worth => k_is)
    (case l_worth => k_is)
    (case c_worth => k_is)
    (case k_worth => k_is)
    (case a_times => k_is)
    (case l_times => k_is)
    (case c_times => k_is)
    (case k_times => k_is)
    (case a_fractions => k_is)
    (case l_fractions => k_is)
    (case c_fractions => k_is)
    (case k_fractions => k_is)
    (case m_fractions => k_is)
    (case a_whole_turn => k_is)
    (case l_whole_turn => k_is)
    (case c_whole_turn => k_is)
    (case k_whole_turn => k_is)
    (case a_least_less_one => k_is)
    (case l_least_less_one => k_is)
    (case c_least_less_one => k_is)
    (case k_least_less_one => k_is)
    (case a_stretched => k_is)
    (case l_stretched => k_is)
    (case c_stretched => k_is)
    (case k_stretched => k_is)
    (case a_least_one => k_is)
    (case l_least_one => k_is)
    (case c_least_one => k_is)
    (case k_least_one => k_is)
    (case a_reach => k_is)
    (case l_reach => k_is)
    (case c_reach => k_is)
    (case k_reach => k_is)
    (case a_ones => k_is)
    (case l_ones => k_is)
    (case c_ones => k_is)
    (case k_ones => k_is)
    (case m_ones => k_is)
    (case a_law_asked => k_is)
    (case l_law_asked => k_is)
    (case c_law_asked => k_is)
    (case k_law_asked => k_is)
    (case a_law_said => k_is)
    (case l_law_said => k_is)
    (case c_law_said => k_is)
    (case k_law_said => k_is)
    (case a_law_numbers_right => k_is)
    (case l_law_numbers_right => k_is)
    (case c_law_numbers_right => k_is)
    (case k_law_numbers_right => k_is)
    (case a_law_seconds_right => k_is)
    (case l_law_seconds_right => k_is)
    (case c_law_seconds_right => k_is)
    (case k_law_seconds_right => k_is)
    (case a_law_ends_right => k_is)
    (case l_law_ends_right => k_is)
    (case c_law_ends_right => k_is)
    (case k_law_ends_right => k_is)
    (case a_law => k_is)
    (case l_law => k_is)
    (case c_law => k_is)
    (case k_law => k_is)
    (case z_ValueError => k_is)
    (case z_bool => k_is)
    (case z_enumerate => k_is)
    (case z_int => k_is)
    (case z_isinstance => k_is)
    (case z_len => k_is)
    (case z_range => k_is)
    (case z_tuple => k_is)
    (case g_GREATEST_NUMBER => k_is)
    (case g_LEAST_NUMBER => k_is)
    (case g_MOST_FRACTIONS => k_is)
    (case g_MOST_ONES => k_is)
    (case g_isqrt => k_is)
    (case g_RootError => k_is)
    (case g_NoNumber => k_is)
    (case g_NoRoot => k_is)
    (case cf_dE => first | k_is | k_exc | rfl | decide +kernel)
    (case cf_tE => first | k_is | k_exc | rfl | decide +kernel)
    (case cf_bE => first | k_is | k_exc | rfl | decide +kernel)
    (case cf_xN => first | k_is | k_exc | rfl | decide +kernel)
    (case cf_kN => first | k_is | k_exc | rfl | decide +kernel)
    (case cf_bN => first | k_is | k_exc | rfl | decide +kernel)
    (case cf_tN => first | k_is | k_exc | rfl | decide +kernel)
    (case cf_sNE => first | k_is | k_exc | rfl | decide +kernel)
    (case cf_sNV => first | k_is | k_exc | rfl | decide +kernel)
    (case cf_s0N => first | k_is | k_exc | rfl | decide +kernel)
    (case cf_sNR => first | k_is | k_exc | rfl | decide +kernel)
    (case cf_nNR => first | k_is | k_exc | rfl | decide +kernel)
    (case cf_xR => first | k_is | k_exc | rfl | decide +kernel)
    (case cf_kR => first | k_is | k_exc | rfl | decide +kernel)
    (case cf_bR => first | k_is | k_exc | rfl | decide +kernel)
    (case cf_tR => first | k_is | k_exc | rfl | decide +kernel)
    (case cf_sRE => first | k_is | k_exc | rfl | decide +kernel)
    (case cf_sRV => first | k_is | k_exc | rfl | decide +kernel)
    (case cf_s0R => first | k_is | k_exc | rfl | decide +kernel)
    (case cf_sRN => first | k_is | k_exc | rfl | decide +kernel)
    (case cf_nRN => first | k_is | k_exc | rfl | decide +kernel)
    (case cf_hgN => first | k_is | k_exc | rfl | decide +kernel)
    (case cf_hkN => first | k_is | k_exc | rfl | decide +kernel)
    (case cf_hdN => first | k_is | k_exc | rfl | decide +kernel)
    (case cf_haN => first | k_is | k_exc | rfl | decide +kernel)
    (case cf_hmN => first | k_is | k_exc | rfl | decide +kernel)
    (case cf_hgR => first | k_is | k_exc | rfl | decide +kernel)
    (case cf_hkR => first | k_is | k_exc | rfl | decide +kernel)
    (case cf_hdR => first | k_is | k_exc | rfl | decide +kernel)
    (case cf_haR => first | k_is | k_exc | rfl | decide +kernel)
    (case cf_hmR => first | k_is | k_exc | rfl | decide +kernel)
    (case cf_hn => first | k_is | k_exc | rfl | decide +kernel)
    (case cf_ht => first | k_is | k_exc | rfl | decide +kernel)
