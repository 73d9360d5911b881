import PyProof.Rows.All
import HandS.ForMost
import HandS.IsInst
import HandS.Wide
import HandS.Gcd
import HandS.Walk
import HandS.Evl
import HandS.Flow
import Flt.RightSqrt
import PySem.Challenge.RW_rootladder_k02_whole_roots
set_option Elab.async false
set_option linter.all false
set_option maxRecDepth 100000
set_option maxHeartbeats 4000000
namespace Rl
open PySem PySem.Spec PyProof.Rows L2 Evl

/-! ### operators of any size -/
def CMulA (i j : Int) : Prop := CMul i j ∨ CMulW i j
def CDivA (i j : Int) : Prop := 0 < j ∧ (j < 1073741824 ∨ j.natAbs.log2 < 9000)
theorem CDivA.w {i j : Int} (h : CDivA i j) : CDivW i j := by
  refine ⟨h.1, ?_⟩
  rcases h.2 with z | z
  · have h1 := h.1
    have : j.natAbs < 2 ^ 30 := by show j.natAbs < 1073741824; omega
    have := PySem.Flt.log2_lt_of (by decide) this
    omega
  · exact z
section
variable {X : Cx}
theorem op_mulA : OpR X (binaryOp .Mult) (rI CMulA fun i j => .int (i * j)) := opI fun _ _ _ _ _ _ _ hc q => mul_int q (hc.elim CMul.ok CMulW.ok)
theorem op_fdivA : OpR X (binaryOp .FloorDiv) (rI CDivA fun i j => .int (i / j)) := by
  intro pins s σ H x y v u Q I rx ry h
  obtain ⟨i, j, e1, e2, hc, q⟩ := h
  exact op_fdivW pins s σ H x y v u Q I rx ry ⟨i, j, e1, e2, hc.w, q⟩
theorem rel_ty {n : String} : RelV (.ty n) (.type n) := rfl
theorem rel_ref {a : Addr} : RelV (.ref a) (.ref a) := rfl
def rIsq : List V → Hp → VK → Prop := fun vs H Q => ∃ a : Int, vs = [.int a] ∧ 0 ≤ a ∧ a.toNat.log2 < 13000 ∧ Q (.int ((Float64.isqrt a.toNat : Nat) : Int)) H
theorem cr_isqrt : CallR X (.builtin "math.isqrt") rIsq := by
  intro pins s σ H vs us Q I r h
  obtain ⟨a, rfl, h0, hl, q⟩ := h
  cases r with
  | cons r1 r2 =>
    cases r2
    obtain ⟨t, rfl⟩ := r1
    exact call_function_meets PySem.W.MGF.kind_isqrt PySem.W.MGF.plain_isqrt PySem.W.MGF.entry_isqrt (PySem.W.MGF.args_isqrt _) (PySem.W.mg_run_isqrt a t (by omega) (by omega) (by omega)).meets ⟨.int _, H, I.tok _, ⟨_, rfl⟩, q⟩
end
theorem log2_lt {n k : Nat} (h : n < 2 ^ k) (h0 : 0 < k) : n.log2 < k := by
  by_cases hn : n = 0
  · subst hn; rw [Nat.log2_zero]; exact h0
  · exact (Nat.log2_lt hn).mpr h
theorem cmulW {i j : Int} {a b : Nat} (ha : i.natAbs < 2 ^ a) (hb : j.natAbs < 2 ^ b) (h0 : 0 < a := by decide) (h1 : 0 < b := by decide) (h : a + b ≤ 1000000 := by decide) : CMulA i j := .inr (wide_mul ha hb h0 h1 h)

/-! ### evaluation, by the operators -/
section
variable {K : PySem.W.Frag} {σ : L2.St} {H H' : Hp} {ta tb te tx : TE} {t u : TT} {x y z v : V} {i j : Int}
theorem ev_add (ha : Ev ta σ H (.int i)) (hb : Ev tb σ H (.int j)) : Ev (tOp (rI0 fun i j => .int (i + j)) ta tb) σ H (.int (i + j)) := ev_op ha hb rv_I0
theorem ev_sub (ha : Ev ta σ H (.int i)) (hb : Ev tb σ H (.int j)) : Ev (tOp (rI0 fun i j => .int (i - j)) ta tb) σ H (.int (i - j)) := ev_op ha hb rv_I0
theorem ev_mul (ha : Ev ta σ H (.int i)) (hb : Ev tb σ H (.int j)) (hc : CMulA i j) : Ev (tOp (rI CMulA fun i j => .int (i * j)) ta tb) σ H (.int (i * j)) := ev_op ha hb (rv_I hc)
theorem ev_mod (ha : Ev ta σ H (.int i)) (hb : Ev tb σ H (.int j)) (hc : 0 < j) : Ev (tOp (rI (fun _ j => 0 < j) fun i j => .int (i % j)) ta tb) σ H (.int (i % j)) := ev_op ha hb (rv_I hc)
theorem ev_div (ha : Ev ta σ H (.int i)) (hb : Ev tb σ H (.int j)) (hc : CDivA i j) : Ev (tOp (rI CDivA fun i j => .int (i / j)) ta tb) σ H (.int (i / j)) := ev_op ha hb (rv_I hc)
theorem ev_pow (ha : Ev ta σ H (.int i)) (hb : Ev tb σ H (.int j)) (hc : CPow i j) : Ev (tOp (rI CPow fun i j => .int (i ^ j.toNat)) ta tb) σ H (.int (i ^ j.toNat)) := ev_op ha hb (rv_I hc)
theorem ev_neg (ha : Ev ta σ H (.int i)) : Ev (tUn (rU fun i => .int (-i)) ta) σ H (.int (-i)) := ev_un ha ru_neg
theorem ev_lt (ha : Ev ta σ H (.int i)) (hb : Ev tb σ H (.int j)) : Ev (tOp (rI0 fun i j => .bl (decide (i < j))) ta tb) σ H (.bl (decide (i < j))) := ev_op ha hb rv_I0
theorem ev_le (ha : Ev ta σ H (.int i)) (hb : Ev tb σ H (.int j)) : Ev (tOp (rI0 fun i j => .bl (decide (i ≤ j))) ta tb) σ H (.bl (decide (i ≤ j))) := ev_op ha hb rv_I0
theorem ev_gt (ha : Ev ta σ H (.int i)) (hb : Ev tb σ H (.int j)) : Ev (tOp (rI0 fun i j => .bl (decide (j < i))) ta tb) σ H (.bl (decide (j < i))) := ev_op ha hb rv_I0
theorem ev_ge (ha : Ev ta σ H (.int i)) (hb : Ev tb σ H (.int j)) : Ev (tOp (rI0 fun i j => .bl (decide (j ≤ i))) ta tb) σ H (.bl (decide (j ≤ i))) := ev_op ha hb rv_I0
theorem vint_eq : decide (V.int i = V.int j) = decide (i = j) := by
  rw [Bool.eq_iff_iff]; simp
theorem vbl_eq {a b : Bool} : decide (V.bl a = V.bl b) = decide (a = b) := by
  rw [Bool.eq_iff_iff]; simp
theorem ev_eqI (ha : Ev ta σ H (.int i)) (hb : Ev tb σ H (.int j)) : Ev (tOp rEq ta tb) σ H (.bl (decide (i = j))) := by
  rw [← vint_eq]; exact ev_op ha hb (rv_eq rfl)
theorem ev_neI (ha : Ev ta σ H (.int i)) (hb : Ev tb σ H (.int j)) : Ev (tOp rNe ta tb) σ H (.bl (!decide (i = j))) := by
  rw [← vint_eq]; exact ev_op ha hb (rv_ne rfl)
theorem ev_eqB {a b : Bool} (ha : Ev ta σ H (.bl a)) (hb : Ev tb σ H (.bl b)) : Ev (tOp rEq ta tb) σ H (.bl (decide (a = b))) := by
  rw [← vbl_eq]; exact ev_op ha hb (rv_eq rfl)
theorem ev_neB {a b : Bool} (ha : Ev ta σ H (.bl a)) (hb : Ev tb σ H (.bl b)) : Ev (tOp rNe ta tb) σ H (.bl (!decide (a = b))) := by
  rw [← vbl_eq]; exact ev_op ha hb (rv_ne rfl)
/-- isinstance by a built-in class -/
theorem ev_isi {m n : String} {b : Bool} (ha : Ev ta σ H x) (ty : ∀ H1, Ex H H1 → TyX K H1 x (.type m)) (hk : kitB m n = some b) : Ev (tCB (rIsi K) (tCons ta (tCons (tC (.ty n)) tNil))) σ H (.bl b) := fun H1 e Q q =>
  ha H1 e _ fun H2 e2 => ⟨x, .ty n, .type m, .type n, b, rfl, .ty n, ty H2 (e.trans e2), kit_ty hk, q H2 e2⟩
theorem kb_ii : kitB "int" "int" = some true := by decide +kernel
theorem kb_ib : kitB "int" "bool" = some false := by decide +kernel
theorem kb_bi : kitB "bool" "int" = some true := by decide +kernel
theorem kb_bb : kitB "bool" "bool" = some true := by decide +kernel
theorem kb_tt : kitB "tuple" "tuple" = some true := by decide +kernel
theorem kb_ll : kitB "list" "list" = some true := by decide +kernel
theorem ev_isII (ha : Ev ta σ H (.int i)) : Ev (tCB (rIsi K) (tCons ta (tCons (tC (.ty "int")) tNil))) σ H (.bl true) := ev_isi ha (fun _ _ => .base (.int i)) kb_ii
theorem ev_isIB (ha : Ev ta σ H (.int i)) : Ev (tCB (rIsi K) (tCons ta (tCons (tC (.ty "bool")) tNil))) σ H (.bl false) := ev_isi ha (fun _ _ => .base (.int i)) kb_ib
theorem ev_isBB {b : Bool} (ha : Ev ta σ H (.bl b)) : Ev (tCB (rIsi K) (tCons ta (tCons (tC (.ty "bool")) tNil))) σ H (.bl true) := ev_isi ha (fun _ _ => .base (.bl b)) kb_bb
theorem ev_isT {p : Addr} {xs : List V} (ha : Ev ta σ H (.ref p)) (hp : H p = some (.tup xs)) : Ev (tCB (rIsi K) (tCons ta (tCons (tC (.ty "tuple")) tNil))) σ H (.bl true) := ev_isi ha (fun _ e => .base (.tup (e _ _ hp))) kb_tt
theorem ev_isL {p : Addr} {xs : List V} (ha : Ev ta σ H (.ref p)) (hp : H p = some (.lst xs)) : Ev (tCB (rIsi K) (tCons ta (tCons (tC (.ty "list")) tNil))) σ H (.bl true) := ev_isi ha (fun _ e => .base (.lst (e _ _ hp))) kb_ll
def rMx2 : List V → Hp → VK → Prop := fun xs H Q => ∃ i j, xs = [.int i, .int j] ∧ Q (.int (if j > i then j else i)) H
theorem ev_max (ha : Ev ta σ H (.int i)) (hb : Ev tb σ H (.int j)) : Ev (tCB (fun xs H Q => ∃ i j, xs = [.int i, .int j] ∧ Q (.int (if j > i then j else i)) H) (tCons ta (tCons tb tNil))) σ H (.int (max i j)) := fun H1 e Q q =>
  ha H1 e _ fun H2 e2 => hb H2 (e.trans e2) _ fun H3 e3 => ⟨i, j, rfl, by
    have := q H3 (e2.trans e3)
    by_cases h : j > i
    · rw [if_pos h]; rwa [Int.max_eq_right (by omega)] at this
    · rw [if_neg h]; rwa [Int.max_eq_left (by omega)] at this⟩
theorem ev_min (ha : Ev ta σ H (.int i)) (hb : Ev tb σ H (.int j)) : Ev (tCB (fun xs H Q => ∃ i j, xs = [.int i, .int j] ∧ Q (.int (if j < i then j else i)) H) (tCons ta (tCons tb tNil))) σ H (.int (min i j)) := fun H1 e Q q =>
  ha H1 e _ fun H2 e2 => hb H2 (e.trans e2) _ fun H3 e3 => ⟨i, j, rfl, by
    have := q H3 (e2.trans e3)
    by_cases h : j < i
    · rw [if_pos h]; rwa [Int.min_eq_right (by omega)] at this
    · rw [if_neg h]; rwa [Int.min_eq_left (by omega)] at this⟩
theorem ev_isq (ha : Ev ta σ H (.int i)) (h0 : 0 ≤ i) (hl : i.toNat.log2 < 13000) : Ev (tCB rIsq (tCons ta tNil)) σ H (.int ((Float64.isqrt i.toNat : Nat) : Int)) := fun H1 e Q q =>
  ha H1 e _ fun H2 e2 => ⟨i, rfl, h0, hl, q H2 e2⟩
/-- [a, b, ..][k] -/
theorem ev_menu {ta : TA} {vs : List V} {n : Nat} (h : EvA ta σ H vs) (hz : vs.length ≤ 100000) (hi : Ev tb σ H (.int i)) (hn : i = (n : Int)) (hv : vs[n]? = some v) : Ev (tOp (rIxL K) (tLst ta) tb) σ H v :=
  ev_opL1 (el_lst h hz) (fun _ e => hi.mono e) fun p H1 hp e => rv_ixL (sq_of hp) (at_of hn hv)
/-- a name's item, a list, a tuple -/
theorem ev_ixL {p : Addr} {xs : List V} {n : Nat} (ha : Ev ta σ H (.ref p)) (hp : SqL K H p xs) (hi : Ev tb σ H (.int i)) (hn : i = (n : Int)) (hv : xs[n]? = some v) : Ev (tOp (rIxL K) ta tb) σ H v := ev_op ha hi (rv_ixL hp (at_of hn hv))
theorem ev_ixT {p : Addr} {xs : List V} {n : Nat} (ha : Ev ta σ H (.ref p)) (hp : SqT K H p xs) (hi : Ev tb σ H (.int i)) (hn : i = (n : Int)) (hv : xs[n]? = some v) : Ev (tOp (rIxT K) ta tb) σ H v := ev_op ha hi (rv_ixT hp (at_of hn hv))
/-- xs[lo:hi] -/
theorem el_slice {p : Addr} {xs : List V} {tl th : TO} {lo hi : Option Int} (ha : Ev ta σ H (.ref p)) (hp : SqL K H p xs) (hl : EvO tl σ H lo) (hh : EvO th σ H hi) : EvL (tSl (rSlL K) ta tl th) σ H (cutV xs lo hi) := fun H1 e Q q =>
  ha H1 e _ fun H2 e2 => hl H2 (e.trans e2) _ fun H3 e3 => hh H3 ((e.trans e2).trans e3) _ fun H4 e4 =>
    ⟨p, xs, rfl, ex_l (((e.trans e2).trans e3).trans e4) hp, fun q' hq' => q q' _ (fresh_back ((e2.trans e3).trans e4) hq') (((e2.trans e3).trans e4).trans (Ex.new hq')) upd_same⟩
variable {D : Ends} {tu tw tz : TS} {g : TG}
/-- for k, x in enumerate(a new list) -/
theorem s_enumN {xs : List V} {a b : Nat} (h : EvL te σ H xs) (Pv : Addr → Nat → L2.St → Hp → Prop) (h0 : ∀ p H1, H p = none → Ex H H1 → H1 p = some (.lst xs) → Pv p 0 σ H1) (hl : ∀ p k σ' H', k ≤ xs.length → Pv p k σ' H' → SqL K H' p xs)
    (hs : ∀ p k x σ' H' T, xs[k]? = some x → Pv p k σ' H' → H' T = none → tu { D with nx := Pv p (k + 1), ct := Pv p (k + 1), bk := D.nx } ((σ'.set a (some (.int (k : Int)))).set b (some x)) (upd H' T (.tup [.int (k : Int), x]))) (hd : ∀ p σ' H', Pv p xs.length σ' H' → D.nx σ' H') :
    tFor (iEnum K (tCons te tNil)) (gTup K 2 (gCons (gName a) (gCons (gName b) gNil))) tu D σ H :=
  h H (Ex.refl H) _ fun p H1 hp e h1 => ⟨p, xs, rfl, sq_of h1, for_it walk_enum (Pv p) (h0 p H1 hp e h1) (hl p) (fun k x σ' H' H2 hk hP hy => by
    obtain ⟨T, y1, y2, rfl, nT, rfl, f1, f2⟩ := hy
    have e1 : V.int (k : Int) = y1 := Option.some.inj f1
    subst e1
    exact ⟨T, [.int (k : Int), y2], rfl, .inl (.inl upd_same), rfl, _, [y2], rfl, y2, [], rfl, rfl, hs p k y2 σ' H' T f2 hP nT⟩) (hd p)⟩
theorem q_enumN {xs : List V} {a b : Nat} (h : EvL te σ H xs) (Pv : Addr → Nat → L2.St → Hp → Prop) (h0 : ∀ p H1, H p = none → Ex H H1 → H1 p = some (.lst xs) → Pv p 0 σ H1) (hl : ∀ p k σ' H', k ≤ xs.length → Pv p k σ' H' → SqL K H' p xs)
    (hs : ∀ p k x σ' H' T, xs[k]? = some x → Pv p k σ' H' → H' T = none → tu { D with nx := Pv p (k + 1), ct := Pv p (k + 1), bk := tz D } ((σ'.set a (some (.int (k : Int)))).set b (some x)) (upd H' T (.tup [.int (k : Int), x]))) (hd : ∀ p σ' H', Pv p xs.length σ' H' → tz D σ' H') :
    tSeq (tFor (iEnum K (tCons te tNil)) (gTup K 2 (gCons (gName a) (gCons (gName b) gNil))) tu) tz D σ H := s_enumN (D := { D with nx := tz D }) h Pv h0 hl hs hd
end
end Rl
set_option Elab.async false
set_option linter.all false
set_option maxRecDepth 100000
set_option maxHeartbeats 4000000
namespace K02
open PySem PySem.Spec PyProof.Rows L2 Evl Rl

def topS (i : Nat) : Stmt := PySem.Challenge.pw_rootladder_k02_whole_roots.main.body.getD i (.Pass ⟨0, 0, 0, 0⟩)
abbrev s_is_number : Stmt := topS 5
theorem sc_is_number : FnScope ["value"] ["value"] (defScope s_is_number) := ⟨rfl, rfl, rfl, by decide +kernel, rfl, by decide +kernel, by decide +kernel⟩
abbrev s_law_mixed : Stmt := topS 9
theorem sc_law_mixed : FnScope ["_law_number_here", "_law_k"] ["_law_number_here", "_law_k"] (defScope s_law_mixed) := ⟨rfl, rfl, rfl, by decide +kernel, rfl, by decide +kernel, by decide +kernel⟩
abbrev s_whole_root : Stmt := topS 6
theorem sc_whole_root : FnScope ["number"] ["number"] (defScope s_whole_root) := ⟨rfl, rfl, rfl, by decide +kernel, rfl, by decide +kernel, by decide +kernel⟩
abbrev s_is_square : Stmt := topS 7
theorem sc_is_square : FnScope ["number", "root"] ["number"] (defScope s_is_square) := ⟨rfl, rfl, rfl, by decide +kernel, rfl, by decide +kernel, by decide +kernel⟩
abbrev s_law : Stmt := topS 11
theorem sc_law : FnScope ["_law_script", "_law_numbers", "_law_k", "_law_cell", "_law_more", "_law_number_here", "_law_side", "_law_found", "_law_told"] ["_law_script"] (defScope s_law) := ⟨rfl, rfl, rfl, by decide +kernel, rfl, by decide +kernel, by decide +kernel⟩
structure Txt (K : PySem.W.Frag) (mg : Str → Option Value) where
  (a_is_number : Addr) (d_is_number : FuncData) (F_is_number : Fun K "is_number" "is_number" s_is_number a_is_number d_is_number) (b_is_number : Binds K d_is_number ["value"] []) (g_is_number : mg "is_number" = some (.ref a_is_number))
  (a_law_mixed : Addr) (d_law_mixed : FuncData) (F_law_mixed : Fun K "_law_mixed" "_law_mixed" s_law_mixed a_law_mixed d_law_mixed) (b_law_mixed : Binds K d_law_mixed ["_law_number_here", "_law_k"] []) (g_law_mixed : mg "_law_mixed" = some (.ref a_law_mixed))
  (a_whole_root : Addr) (d_whole_root : FuncData) (F_whole_root : Fun K "whole_root" "whole_root" s_whole_root a_whole_root d_whole_root) (b_whole_root : Binds K d_whole_root ["number"] []) (g_whole_root : mg "whole_root" = some (.ref a_whole_root))
  (a_is_square : Addr) (d_is_square : FuncData) (F_is_square : Fun K "is_square" "is_square" s_is_square a_is_square d_is_square) (b_is_square : Binds K d_is_square ["number"] []) (g_is_square : mg "is_square" = some (.ref a_is_square))
  (a_law : Addr) (d_law : FuncData) (F_law : Fun K "law" "law" s_law a_law d_law) (b_law : Binds K d_law ["_law_script"] []) (g_law : mg "law" = some (.ref a_law))
  (z_bool : mg "bool" = none)
  (z_enumerate : mg "enumerate" = none)
  (z_int : mg "int" = none)
  (z_isinstance : mg "isinstance" = none)
  (z_max : mg "max" = none)
  (g_isqrt : mg "isqrt" = some (.builtin "math.isqrt"))
/-! the mathematics -/
def mixed (n k : Int) : Int := (n % 2147483647 + 7919 * k * k + 31 * k) * 48271 % 2147483647 * (69621 + 2 * k) % 2147483629
theorem mixed_lo (n k : Int) : 0 ≤ mixed n k := Int.emod_nonneg _ (by decide)
theorem mixed_hi (n k : Int) : mixed n k < 2147483629 := Int.emod_lt_of_pos _ (by decide)
def Ok (n : Int) : Prop := 0 ≤ n ∧ n.toNat < 2 ^ 250
def rt (n : Int) : Int := (Float64.isqrt n.toNat : Nat)
theorem rt_spec {n : Int} (h : 0 ≤ n) : 0 ≤ rt n ∧ rt n * rt n ≤ n ∧ n < (rt n + 1) * (rt n + 1) := by
  have e := PySem.Float64.isqrt_spec n.toNat
  unfold rt
  have e1 : ((Float64.isqrt n.toNat * Float64.isqrt n.toNat : Nat) : Int) ≤ (n.toNat : Int) := Int.ofNat_le.mpr e.1
  have e2 : (n.toNat : Int) < (((Float64.isqrt n.toNat + 1) * (Float64.isqrt n.toNat + 1) : Nat) : Int) := Int.ofNat_lt.mpr e.2
  rw [Int.natCast_mul] at e1
  rw [Int.natCast_mul] at e2
  have e3 : (n.toNat : Int) = n := Int.toNat_of_nonneg h
  rw [e3] at e1 e2
  exact ⟨Int.natCast_nonneg _, e1, e2⟩
theorem rt_lt {n : Int} (h : Ok n) : (rt n).natAbs < 2 ^ 250 := by
  have e := rt_spec h.1
  have h2 := h.2
  have : rt n ≤ n := by
    by_cases z : rt n ≤ 0
    · have := h.1; omega
    · have : rt n * 1 ≤ rt n * rt n := Int.mul_le_mul_of_nonneg_left (by omega) (by omega)
      omega
  have h0 := e.1
  have h1 := h.1
  refine Nat.lt_of_le_of_lt ?_ h2
  omega
theorem ok0 : Ok 0 := ⟨by decide, by decide⟩
theorem ok1 : Ok 1 := ⟨by decide, by decide⟩
theorem ok_of {n : Int} (h0 : 0 ≤ n) (h : n < 10 ^ 61) : Ok n := by
  refine ⟨h0, ?_⟩
  have e : (10 : Int) ^ 61 ≤ ((2 ^ 250 : Nat) : Int) := by decide
  generalize (10 : Int) ^ 61 = B at *
  generalize (2 : Nat) ^ 250 = C at *
  omega
theorem abs_lt {y : Int} (h0 : 0 ≤ y) (h1 : y < 10 ^ 30) : y.natAbs < 2 ^ 100 := by
  have e : (10 : Int) ^ 30 ≤ ((2 ^ 100 : Nat) : Int) := by decide
  generalize (10 : Int) ^ 30 = B at *
  generalize (2 : Nat) ^ 100 = C at *
  omega
theorem abs_succ {y : Int} (h : y.natAbs < 2 ^ 250) : (y + 1).natAbs < 2 ^ 251 := by
  have e : (2 : Nat) ^ 250 + 1 ≤ 2 ^ 251 := by decide
  generalize (2 : Nat) ^ 250 = C at *
  generalize (2 : Nat) ^ 301 = D at *
  omega
theorem ok_sq {y m : Int} (h0 : 0 ≤ y) (h1 : y < 10 ^ 30) : Ok (max 0 (y * y + m / 24 % 5 - 2)) := by
  have h : y * y ≤ 10 ^ 30 * 10 ^ 30 := Int.mul_le_mul (Int.le_of_lt h1) (Int.le_of_lt h1) h0 (by decide)
  have e : (10 : Int) ^ 30 * 10 ^ 30 + 100 ≤ 10 ^ 61 := by decide
  have a := Int.emod_nonneg (m / 24) (show (5 : Int) ≠ 0 by decide)
  have b := Int.emod_lt_of_pos (m / 24) (show (0 : Int) < 5 by decide)
  have hn := Int.mul_nonneg h0 h0
  refine ok_of (by omega) ?_
  generalize (10 : Int) ^ 30 * 10 ^ 30 = B at *
  generalize (10 : Int) ^ 61 = C at *
  generalize y * y = D at *
  have p : (100 : Int) ≤ C := by
    omega
  omega
theorem menu1 (m : Int) (h0 : 0 ≤ m) (h1 : m < 2147483629) : ∃ (j : Nat) (y : Int), m % 3 = (j : Int) ∧ [V.int (m % 5000), .int m, .int (m * ((10 : Int) ^ (52 : Int).toNat + 7) * (m + 5) % (10 : Int) ^ (60 : Int).toNat)][j]? = some (.int y) ∧ Ok y := by
  have small : ∀ y : Int, 0 ≤ y → y < 10000000000 → Ok y := fun y a b => ok_of a (Int.lt_trans b (by decide))
  have c : m % 3 = 0 ∨ m % 3 = 1 ∨ m % 3 = 2 := by omega
  rcases c with c | c | c
  · exact ⟨0, _, c, rfl, small _ (by omega) (by omega)⟩
  · exact ⟨1, _, c, rfl, small _ (by omega) (by omega)⟩
  · exact ⟨2, _, c, rfl, ok_of (Int.emod_nonneg _ (by decide)) (Int.lt_trans (Int.emod_lt_of_pos _ (by decide)) (by decide))⟩
theorem menu2 (m : Int) (h0 : 0 ≤ m) (h1 : m < 2147483629) : ∃ (j : Nat) (y : Int), m / 12 % 2 = (j : Int) ∧ [V.int (m / 6 % 1000), .int (m * ((10 : Int) ^ (20 : Int).toNat + 9) % (10 : Int) ^ (30 : Int).toNat)][j]? = some (.int y) ∧ 0 ≤ y ∧ y < 10 ^ 30 := by
  have c : m / 12 % 2 = 0 ∨ m / 12 % 2 = 1 := by omega
  rcases c with c | c
  · exact ⟨0, _, c, rfl, by omega, Int.lt_trans (show m / 6 % 1000 < 1000 by omega) (by decide)⟩
  · exact ⟨1, _, c, rfl, Int.emod_nonneg _ (by decide), Int.emod_lt_of_pos _ (by decide)⟩
theorem cut_mem {xs : List V} {lo hi : Option Int} {k : Nat} {x : V} (h : (cutV xs lo hi)[k]? = some x) : x ∈ xs := List.mem_of_mem_drop (List.mem_of_mem_take (List.mem_of_getElem? h))
theorem cut_len (ns : List Int) : (cutV (ns.map V.int) none (some 63)).length ≤ ns.length := by
  unfold cutV
  rw [List.length_take, List.length_drop, List.length_map]
  omega
theorem cut_int {ns : List Int} {k : Nat} {x : V} (h : (cutV (ns.map V.int) none (some 63))[k]? = some x) : ∃ c, x = .int c ∧ k < ns.length := by
  have h1 := cut_mem h
  rw [List.mem_map] at h1
  obtain ⟨c, _, e⟩ := h1
  have h2 := (List.getElem?_eq_some_iff.mp h).1
  exact ⟨c, e.symm, Nat.lt_of_lt_of_le h2 (cut_len ns)⟩
theorem map_int {ys : List Int} {i : Nat} {x : V} (h : (ys.map V.int)[i]? = some x) : ∃ n, x = .int n ∧ n ∈ ys := by
  have h1 := List.mem_of_getElem? h
  rw [List.mem_map] at h1
  obtain ⟨c, m, e⟩ := h1
  exact ⟨c, e.symm, m⟩
section
variable {P : Program} {w : World} {K : PySem.W.Frag} {mg : Str → Option Value} {base : Heap}
/-! side conditions -/
local macro_rules | `(tactic| walk_at "ec") => `(tactic| first
  | assumption | omega
  | exact Or.inl (Or.inl ⟨by omega, by omega⟩)
  | exact Or.inl (Or.inr ⟨by omega, by omega⟩)
  | exact ⟨by omega, Or.inl (by omega)⟩
  | exact ⟨by decide, by decide, by decide⟩
  | decide)
/-! evaluation of an expression, from the outside -/
local macro_rules | `(tactic| walk_at "ev") => `(tactic| first
  | exact ev_c | exact ev_var rfl | exact ea_nil | exact eo_none
  | (refine' ea_cons ?a ?b; (case a => walk_at "ev"); (case b => walk_at "ev"))
  | (refine' ev_add ?a ?b; (case a => walk_at "ev"); (case b => walk_at "ev"))
  | (refine' ev_sub ?a ?b; (case a => walk_at "ev"); (case b => walk_at "ev"))
  | (refine' ev_mul ?a ?b ?c; (case a => walk_at "ev"); (case b => walk_at "ev"); (case c => walk_at "ec"))
  | (refine' ev_mod ?a ?b ?c; (case a => walk_at "ev"); (case b => walk_at "ev"); (case c => walk_at "ec"))
  | (refine' ev_div ?a ?b ?c; (case a => walk_at "ev"); (case b => walk_at "ev"); (case c => walk_at "ec"))
  | (refine' ev_pow ?a ?b ?c; (case a => walk_at "ev"); (case b => walk_at "ev"); (case c => walk_at "ec"))
  | (refine' ev_neg ?a; (case a => walk_at "ev"))
  | (refine' ev_eqI ?a ?b; (case a => walk_at "ev"); (case b => walk_at "ev"))
  | (refine' ev_neI ?a ?b; (case a => walk_at "ev"); (case b => walk_at "ev"))
  | (refine' ev_eqB ?a ?b; (case a => walk_at "ev"); (case b => walk_at "ev"))
  | (refine' ev_neB ?a ?b; (case a => walk_at "ev"); (case b => walk_at "ev"))
  | (refine' ev_lt ?a ?b; (case a => walk_at "ev"); (case b => walk_at "ev"))
  | (refine' ev_le ?a ?b; (case a => walk_at "ev"); (case b => walk_at "ev"))
  | (refine' ev_gt ?a ?b; (case a => walk_at "ev"); (case b => walk_at "ev"))
  | (refine' ev_ge ?a ?b; (case a => walk_at "ev"); (case b => walk_at "ev"))
  | (refine' ev_isII ?a; (case a => walk_at "ev"))
  | (refine' ev_isIB ?a; (case a => walk_at "ev"))
  | (refine' ev_isBB ?a; (case a => walk_at "ev"))
  | (refine' ev_max ?a ?b; (case a => walk_at "ev"); (case b => walk_at "ev"))
  | (refine' ev_min ?a ?b; (case a => walk_at "ev"); (case b => walk_at "ev"))
  | (refine' et_test ?a; (case a => walk_at "ev"))
  | (refine' et_B ?a; (case a => walk_at "ev"))
  | (refine' et_not ?a; (case a => walk_at "ev"))
  | (refine' et_and ?a fun _ => ?b; (case a => walk_at "ev"); (case b => walk_at "ev"))
  | (refine' et_or ?a fun _ => ?b; (case a => walk_at "ev"); (case b => walk_at "ev"))
  | (refine' ev_andV ?a fun _ => ?b; (case a => walk_at "ev"); (case b => walk_at "ev"))
  | (refine' ev_orV ?a fun _ => ?b; (case a => walk_at "ev"); (case b => walk_at "ev"))
  | (refine' ev_notV ?a; (case a => walk_at "ev"))
  | (refine' ev_call ?a ?b; (case a => walk_at "ev"); (case b => walk_at "sp")))
local macro_rules | `(tactic| walk_at "eb") => `(tactic| first | rfl | assumption | (simp; done) | (simp; omega) | (simp only [Bool.not_true, Bool.not_false, Bool.false_or, Bool.or_false, Bool.true_and, Bool.and_true, decide_eq_false_iff_not, decide_eq_true_eq, Bool.not_eq_true', Bool.not_eq_false']; first | assumption | omega))
local macro_rules | `(tactic| walk_at "evx") => `(tactic| (refine' ev_is ?a ?b; (case a => walk_at "ev"); (case b => walk_at "eb")))
local macro_rules | `(tactic| walk_at "etx") => `(tactic| (refine' et_is ?a ?b; (case a => walk_at "ev"); (case b => walk_at "eb")))

def sp_law_mixed (K : PySem.W.Frag) : Sp := fun vs H Q _ => ∃ n k : Int, vs = [.int n, .int k] ∧ 0 ≤ k ∧ k ≤ 1000 ∧ RetV (.int (mixed n k)) H Q
theorem ok_law_mixed (T : Txt K mg) : FnOk P w K mg base CX0 1 T.a_law_mixed T.d_law_mixed ["_law_number_here", "_law_k"] (sp_law_mixed K) := by
  refine T.F_law_mixed.ok sc_law_mixed (fun vs H Q E h => ?_) (fun cdv A outer s H vs Q E hr h => ?_)
  · obtain ⟨n, k, rfl, _⟩ := h; rfl
  · obtain ⟨n, k, rfl, h0, h1, q⟩ := h
    refine ⟨_, 
      (pss_cons (ps_set (i := 0) sc_law_mixed.nd rfl (.inl rfl) (pe_op op_mod (pe_op op_mulA (pe_op op_add (pe_op op_add (pe_op op_mod (pv 0) pe_int) (pe_op op_mulA (pe_op op_mulA pe_int (pv 1)) (pv 1))) (pe_op op_mulA pe_int (pv 1))) pe_int) pe_int)) 
      (pss_one (ps_ret (pe_op op_mod (pe_op op_mulA (pv 0) (pe_op op_add pe_int (pe_op op_mulA pe_int (pv 1)))) pe_int)))), ?_⟩
    have b1 := Int.emod_nonneg n (show (2147483647 : Int) ≠ 0 by decide)
    have b2 := Int.emod_lt_of_pos n (show (0 : Int) < 2147483647 by decide)
    have b3 : 0 ≤ 7919 * k * k ∧ 7919 * k * k ≤ 7919000000 := by
      have := Int.mul_le_mul h1 h1 h0 (by decide)
      have := Int.mul_nonneg h0 h0
      rw [Int.mul_assoc]; omega
    refine q_asg (v := .int ((n % 2147483647 + 7919 * k * k + 31 * k) * 48271 % 2147483647)) (by walk_at "ev") fun H1 e1 => ?_
    have b4 := Int.emod_nonneg ((n % 2147483647 + 7919 * k * k + 31 * k) * 48271) (show (2147483647 : Int) ≠ 0 by decide)
    have b5 := Int.emod_lt_of_pos ((n % 2147483647 + 7919 * k * k + 31 * k) * 48271) (show (0 : Int) < 2147483647 by decide)
    exact s_ret (v := .int (mixed n k)) (by unfold mixed; walk_at "ev") fun H2 e2 => q.go (e1.trans e2)
theorem spv_law_mixed {n k : Int} {H : Hp} (h0 : 0 ≤ k) (h1 : k ≤ 1000) : SpV (sp_law_mixed K) [.int n, .int k] H (.int (mixed n k)) := fun _ _ _ q _ => ⟨n, k, rfl, h0, h1, q⟩
def sp_is_number (K : PySem.W.Frag) : Sp := fun vs H Q _ => ∃ n : Int, vs = [.int n] ∧ RetV (.bl true) H Q
theorem spv_is_number {n : Int} {H : Hp} : SpV (sp_is_number K) [.int n] H (.bl true) := fun _ _ _ q _ => ⟨n, rfl, q⟩
theorem ok_is_number (T : Txt K mg) : FnOk P w K mg base CX0 1 T.a_is_number T.d_is_number ["value"] (sp_is_number K) := by
  refine T.F_is_number.ok sc_is_number (fun vs H Q E h => ?_) (fun cdv A outer s H vs Q E hr h => ?_)
  · obtain ⟨n, rfl, _⟩ := h; rfl
  · obtain ⟨n, rfl, q⟩ := h
    refine ⟨_, 
      (pss_one (ps_ret (pe_and (pe_callB call_isi (by rfl) T.z_isinstance (by decide +kernel) (pa_cons (pv 0) (pa_cons (pe_bltn (v := .ty "int") (u := .type "int") (by rfl) T.z_int (by decide +kernel) rfl) pa_nil))) (pe_one (pe_not (pe_callB call_isi (by rfl) T.z_isinstance (by decide +kernel) (pa_cons (pv 0) (pa_cons (pe_bltn (v := .ty "bool") (u := .type "bool") (by rfl) T.z_bool (by decide +kernel) rfl) pa_nil)))))))), ?_⟩
    exact s_ret (v := .bl true) (by walk_at "evx") fun H2 e2 => q.go e2
def sp_whole_root (K : PySem.W.Frag) : Sp := fun vs H Q _ => ∃ n : Int, vs = [.int n] ∧ Ok n ∧ RetV (.int (rt n)) H Q
theorem spv_whole_root {n : Int} {H : Hp} (h : Ok n) : SpV (sp_whole_root K) [.int n] H (.int (rt n)) := fun _ _ _ q _ => ⟨n, rfl, h, q⟩
local macro_rules | `(tactic| walk_at "sp") => `(tactic| first | exact spv_is_number | exact spv_law_mixed (by omega) (by omega) | exact spv_whole_root (by assumption))
theorem ok_whole_root (T : Txt K mg) : FnOk P w K mg base CX0 2 T.a_whole_root T.d_whole_root ["number"] (sp_whole_root K) := by
  have G_is_number := ok_is_number (P := P) (w := w) (base := base) T
  refine T.F_whole_root.ok sc_whole_root (fun vs H Q E h => ?_) (fun cdv A outer s H vs Q E hr h => ?_)
  · obtain ⟨n, rfl, _⟩ := h; rfl
  · obtain ⟨n, rfl, h, q⟩ := h
    have h0 := h.1
    refine ⟨_, 
      (pss_cons (ps_if (PW.pt (pw_or (pt_not (pt_val (pe_call G_is_number hr (by rfl) T.g_is_number T.F_is_number.kp T.b_is_number .nil pass0 (pa_cons (pv 0) pa_nil)))) (pw_or1 (pt_cmpR op_lt (pv 0) pe_int (nomark _))))) (
        (pss_one (ps_never))) (pss_nil)) 
      (pss_one (ps_ret (pe_callBfun cr_isqrt (by rfl) T.g_isqrt (pa_cons (pv 0) pa_nil))))), ?_⟩
    refine q_when (b := false) (by walk_at "etx") (fun z => nomatch z) fun _ H1 e1 => ?_
    exact s_ret (ev_isq (by walk_at "ev") h0 (Nat.lt_trans (log2_lt h.2 (by decide)) (by decide))) fun H2 e2 => q.go (e1.trans e2)
def sp_is_square (K : PySem.W.Frag) : Sp := fun vs H Q _ => ∃ n : Int, vs = [.int n] ∧ Ok n ∧ RetV (.bl (decide (rt n * rt n = n))) H Q
theorem spv_is_square {n : Int} {H : Hp} (h : Ok n) : SpV (sp_is_square K) [.int n] H (.bl (decide (rt n * rt n = n))) := fun _ _ _ q _ => ⟨n, rfl, h, q⟩
local macro_rules | `(tactic| walk_at "sp") => `(tactic| exact spv_is_square (by assumption))
theorem ok_is_square (T : Txt K mg) : FnOk P w K mg base CX0 3 T.a_is_square T.d_is_square ["number"] (sp_is_square K) := by
  have G_whole_root := ok_whole_root (P := P) (w := w) (base := base) T
  refine T.F_is_square.ok sc_is_square (fun vs H Q E h => ?_) (fun cdv A outer s H vs Q E hr h => ?_)
  · obtain ⟨n, rfl, _⟩ := h; rfl
  · obtain ⟨n, rfl, h, q⟩ := h
    refine ⟨_, 
      (pss_cons (ps_set (i := 1) sc_is_square.nd rfl (.inl rfl) (pe_call G_whole_root hr (by rfl) T.g_whole_root T.F_whole_root.kp T.b_whole_root .nil pass0 (pa_cons (pv 0) pa_nil))) 
      (pss_one (ps_ret (pe_cmpR op_eq (pe_op op_mulA (pv 1) (pv 1)) (pv 0) (nomark _))))), ?_⟩
    refine q_asg (v := .int (rt n)) (by walk_at "ev") fun H1 e1 => ?_
    have hm : CMulA (rt n) (rt n) := cmulW (rt_lt h) (rt_lt h)
    exact s_ret (by walk_at "ev") fun H2 e2 => q.go (e1.trans e2)
def sp_law (K : PySem.W.Frag) : Sp := fun vs H Q _ => ∃ (a : Addr) (ns : List Int), vs = [.ref a] ∧ SqL K H a (ns.map V.int) ∧ ns.length ≤ 63 ∧ ∀ H', Q (.bl true) H'
theorem ok_law (T : Txt K mg) : FnOk P w K mg base CX0 4 T.a_law T.d_law ["_law_script"] (sp_law K) := by
  have G_law_mixed := ok_law_mixed (P := P) (w := w) (base := base) T
  have G_whole_root := ok_whole_root (P := P) (w := w) (base := base) T
  have G_is_square := ok_is_square (P := P) (w := w) (base := base) T
  refine T.F_law.ok sc_law (fun vs H Q E h => ?_) (fun cdv A outer s H vs Q E hr h => ?_)
  · obtain ⟨a, ns, rfl, _⟩ := h; rfl
  · obtain ⟨a, ns, rfl, hS, hlen, q⟩ := h
    refine ⟨_, 
      (pss_cons (ps_set (i := 1) sc_law.nd rfl (.inl rfl) (pe_lst (pa_cons pe_int (pa_cons pe_int pa_nil)))) 
      (pss_cons (ps_for PassesOwn.never rfl (pi_enum (by rfl) T.z_enumerate (pa_cons (pe_slice sl_list (pv 0) po_none (po_some pe_int)) pa_nil)) (pg_tup rfl (pgs_cons (pg_name (i := 2) sc_law.nd rfl (.inl rfl)) (pgs_cons (pg_name (i := 3) sc_law.nd rfl (.inl rfl)) pgs_nil))) (
        (pss_cons (ps_set (i := 4) sc_law.nd rfl (.inl rfl) (pe_call G_law_mixed (hr.mono (by decide)) (by rfl) T.g_law_mixed T.F_law_mixed.kp T.b_law_mixed .nil pass0 (pa_cons (pv 3) (pa_cons (pv 2) pa_nil)))) 
        (pss_cons (ps_set (i := 5) sc_law.nd rfl (.inl rfl) (pe_ix ix_list (pe_lst (pa_cons (pe_op op_mod (pv 4) pe_int) (pa_cons (pv 4) (pa_cons (pe_op op_mod (pe_op op_mulA (pe_op op_mulA (pv 4) (pe_op op_add (pe_op op_pow pe_int pe_int) pe_int)) (pe_op op_add (pv 4) pe_int)) (pe_op op_pow pe_int pe_int)) pa_nil)))) (pe_op op_mod (pv 4) pe_int) (fun _ _ => rfl))) 
        (pss_cons (ps_if (pt_cmpR op_eq (pe_op op_mod (pe_op op_fdivA (pv 4) pe_int) pe_int) pe_int (nomark _)) (
          (pss_cons (ps_set (i := 6) sc_law.nd rfl (.inl rfl) (pe_ix ix_list (pe_lst (pa_cons (pe_op op_mod (pe_op op_fdivA (pv 4) pe_int) pe_int) (pa_cons (pe_op op_mod (pe_op op_mulA (pv 4) (pe_op op_add (pe_op op_pow pe_int pe_int) pe_int)) (pe_op op_pow pe_int pe_int)) pa_nil))) (pe_op op_mod (pe_op op_fdivA (pv 4) pe_int) pe_int) (fun _ _ => rfl))) 
          (pss_one (ps_set (i := 5) sc_law.nd rfl (.inl rfl) (pe_callB (call_max2 rfl) (by rfl) T.z_max (by decide +kernel) (pa_cons pe_int (pa_cons (pe_op op_sub (pe_op op_add (pe_op op_mulA (pv 6) (pv 6)) (pe_op op_mod (pe_op op_fdivA (pv 4) pe_int) pe_int)) pe_int) pa_nil))))))) (pss_nil)) 
        (pss_one (ps_expr (pe_bm PySem.F.plainAttrs_list PySem.F.slot_list_append PySem.F.type_list_append mt_append (pv 1) (pa_cons (pv 5) pa_nil))))))))) 
      (pss_cons (ps_for PassesOwn.never rfl (pi_list (pv 1)) (pg_name (i := 5) sc_law.nd rfl (.inl rfl)) (
        (pss_cons (ps_set (i := 7) sc_law.nd rfl (.inl rfl) (pe_call G_whole_root (hr.mono (by decide)) (by rfl) T.g_whole_root T.F_whole_root.kp T.b_whole_root .nil pass0 (pa_cons (pv 5) pa_nil))) 
        (pss_cons (ps_if (PW.pt (pw_or (pt_not (pt_val (pe_callB call_isi (by rfl) T.z_isinstance (by decide +kernel) (pa_cons (pv 7) (pa_cons (pe_bltn (v := .ty "int") (u := .type "int") (by rfl) T.z_int (by decide +kernel) rfl) pa_nil))))) (pw_or (pt_val (pe_callB call_isi (by rfl) T.z_isinstance (by decide +kernel) (pa_cons (pv 7) (pa_cons (pe_bltn (v := .ty "bool") (u := .type "bool") (by rfl) T.z_bool (by decide +kernel) rfl) pa_nil)))) (pw_or1 (pt_cmpR op_lt (pv 7) pe_int (nomark _)))))) (
          (pss_one (ps_ret pe_bl))) (pss_nil)) 
        (pss_cons (ps_if (PW.pt (pw_or (pt_cmpR op_gt (pe_op op_mulA (pv 7) (pv 7)) (pv 5) (nomark _)) (pw_or1 (pt_cmpR op_le (pe_op op_mulA (pe_op op_add (pv 7) pe_int) (pe_op op_add (pv 7) pe_int)) (pv 5) (nomark _))))) (
          (pss_one (ps_ret pe_bl))) (pss_nil)) 
        (pss_cons (ps_set (i := 8) sc_law.nd rfl (.inl rfl) (pe_call G_is_square hr (by rfl) T.g_is_square T.F_is_square.kp T.b_is_square .nil pass0 (pa_cons (pv 5) pa_nil))) 
        (pss_one (ps_if (PW.pt (pw_or (pt_not (pt_val (pe_callB call_isi (by rfl) T.z_isinstance (by decide +kernel) (pa_cons (pv 8) (pa_cons (pe_bltn (v := .ty "bool") (u := .type "bool") (by rfl) T.z_bool (by decide +kernel) rfl) pa_nil))))) (pw_or1 (pt_cmpR op_ne (pv 8) (pe_cmpR op_eq (pe_op op_mulA (pv 7) (pv 7)) (pv 5) (nomark _)) (nomark _))))) (
          (pss_one (ps_ret pe_bl))) (pss_nil))))))))) 
      (pss_one (ps_ret pe_bl))))), ?_⟩
    refine q_asgL (xs := [.int 0, .int 1]) (el_lst (by walk_at "ev") (by decide)) fun p H1 hp e1 h1 => ?_
    refine q_enumN (xs := cutV (ns.map V.int) none (some 63)) (el_slice (ev_var rfl) (ex_l e1 hS) eo_none (eo_some ev_c))
      (fun q k σ' H' => ∃ (ys : List Int) (s2 s3 s4 s5 s6 : Option V), σ' = [some (.ref a), some (.ref p), s2, s3, s4, s5, s6, none, none] ∧ p ≠ q ∧ (∀ y ∈ ys, Ok y) ∧ ys.length = k + 2 ∧ H' p = some (.lst (ys.map V.int)) ∧ H' q = some (.lst (cutV (ns.map V.int) none (some 63))))
      (fun q H2 hq e2 h2 => ⟨[0, 1], none, none, none, none, none, rfl, ne_of_none h1 hq, ?_, rfl, e2 p _ h1, h2⟩) (fun q k σ' H' _ h => sq_of (by obtain ⟨_, _, _, _, _, _, _, _, _, _, _, h⟩ := h; exact h)) (fun q k x σ' H' T hx hP hT => ?_) (fun q2 σ' H' hP => ?_)
    · intro y hy
      rcases List.mem_cons.mp hy with rfl | hy
      · exact ok0
      · rcases List.mem_cons.mp hy with rfl | hy
        · exact ok1
        · cases hy
    · obtain ⟨ys, s2, s3, s4, s5, s6, rfl, npq, hys, hl, hp', hq'⟩ := hP
      obtain ⟨c, rfl, hk⟩ := cut_int hx
      have hk63 : (k : Int) ≤ 1000 := by omega
      have hk0 : (0 : Int) ≤ (k : Int) := Int.natCast_nonneg _
      have epT : p ≠ T := ne_of_none hp' hT
      have eqT : q ≠ T := ne_of_none hq' hT
      have hp2 : upd H' T (.tup [.int (k : Int), .int c]) p = some (.lst (ys.map V.int)) := by rw [upd_ne epT]; exact hp'
      have hq2 : upd H' T (.tup [.int (k : Int), .int c]) q = some (.lst (cutV (ns.map V.int) none (some 63))) := by rw [upd_ne eqT]; exact hq'
      refine q_asg (v := .int (mixed c k)) (by walk_at "ev") fun H3 e3 => ?_
      have m0 := mixed_lo c k
      have m1 := mixed_hi c k
      generalize mixed c k = m at m0 m1
      -- the number
      obtain ⟨j, y, ej, ey, hy⟩ := menu1 m m0 m1
      refine q_asg (v := .int y) (ev_menu (n := j) (vs := _) (by walk_at "ev") (by show (3 : Nat) ≤ 100000; decide) (by walk_at "ev") ej ey) fun H4 e4 => ?_
      have fin : ∀ (z : Int) (t6 : Option V) (H5 : Hp), Ok z → Ex H4 H5 → H5 p = some (.lst (ys.map V.int)) ∧ H5 q = some (.lst (cutV (ns.map V.int) none (some 63))) := fun z t6 H5 _ e5 => ⟨e5 _ _ (e4 _ _ (e3 _ _ hp2)), e5 _ _ (e4 _ _ (e3 _ _ hq2))⟩
      have len5 : (ys.map V.int).length < 100000 := by rw [List.length_map]; omega
      have fin2 : ∀ (z : Int) (t6 : Option V) (H6 : Hp), Ok z → Ex H4 H6 → ∃ (ys' : List Int) (s2 s3 s4 s5 s6 : Option V), [some (V.ref a), some (.ref p), some (.int (k : Int)), some (.int c), some (.int m), some (.int z), t6, none, none] = [some (.ref a), some (.ref p), s2, s3, s4, s5, s6, none, none] ∧ p ≠ q ∧ (∀ y ∈ ys', Ok y) ∧ ys'.length = k + 1 + 2 ∧
          upd H6 p (.lst (ys.map V.int ++ [.int z])) p = some (.lst (ys'.map V.int)) ∧ upd H6 p (.lst (ys.map V.int ++ [.int z])) q = some (.lst (cutV (ns.map V.int) none (some 63))) := fun z t6 H6 hz e6 => by
        refine ⟨ys ++ [z], _, _, _, _, _, rfl, npq, fun u hu => ?_, ?_, ?_, ?_⟩
        · rcases List.mem_append.mp hu with h | h
          · exact hys u h
          · rw [List.mem_singleton] at h; subst h; exact hz
        · rw [List.length_append, hl]; rfl
        · rw [upd_same, List.map_append]; rfl
        · rw [upd_ne]
          · exact (fin z t6 H6 hz e6).2
          · exact npq.symm
      refine q_when (b := decide (m / 3 % 2 = 1)) (by walk_at "ev") (fun _ H5 e5 => ?_) (fun _ H5 e5 => ?_)
      · obtain ⟨j2, y2, ej2, ey2, hy20, hy21⟩ := menu2 m m0 m1
        refine q_asg (v := .int y2) (ev_menu (n := j2) (vs := _) (by walk_at "ev") (by show (2 : Nat) ≤ 100000; decide) (by walk_at "ev") ej2 ey2) fun H6 e6 => ?_
        have hyy : CMulA y2 y2 := cmulW (a := 100) (b := 100) (abs_lt hy20 hy21) (abs_lt hy20 hy21)
        refine s_asg (v := .int (max 0 (y2 * y2 + m / 24 % 5 - 2))) (by walk_at "ev") fun H7 e7 => ?_
        have hz : Ok (max 0 (y2 * y2 + m / 24 % 5 - 2)) := ok_sq hy20 hy21
        refine s_app (fin _ none H7 hz ((e5.trans e6).trans e7)).1 (ev_var rfl) (ev_var rfl) len5 fun H8 e8 => ?_
        exact fin2 _ _ H8 hz (((e5.trans e6).trans e7).trans e8)
      · refine s_app (fin _ none H5 hy e5).1 (ev_var rfl) (ev_var rfl) len5 fun H6 e6 => ?_
        exact fin2 _ _ H6 hy (e5.trans e6)
    · obtain ⟨ys, s2, s3, s4, s5, s6, rfl, npq, hys, hl, hp', hq'⟩ := hP
      refine q_forLn (xs := ys.map V.int) (ev_var rfl) (sq_of hp') (fun i σ2 H2 => ∃ (s2 s3 s4 s5 s6 s7 s8 : Option V), σ2 = [some (.ref a), some (.ref p), s2, s3, s4, s5, s6, s7, s8] ∧ H2 p = some (.lst (ys.map V.int)))
        (fun H2 e2 => ⟨_, _, _, _, _, _, _, rfl, e2 _ _ hp'⟩) (fun i σ2 H2 _ h => sq_of (by obtain ⟨_, _, _, _, _, _, _, _, h⟩ := h; exact h)) (fun i x σ2 H2 hx hP => ?_) (fun σ2 H2 hP => ?_)
      · obtain ⟨s2, s3, s4, s5, s6, s7, s8, rfl, hp2⟩ := hP
        obtain ⟨n, rfl, hn⟩ := map_int hx
        have ho := hys n hn
        have hsp := rt_spec ho.1
        have hlt := rt_lt ho
        refine q_asg (v := .int (rt n)) (by walk_at "ev") fun H3 e3 => ?_
        generalize hr' : rt n = r at *
        have c1 : CMulA r r := cmulW hlt hlt
        have c2 : CMulA (r + 1) (r + 1) := cmulW (a := 251) (b := 251) (abs_succ hlt) (abs_succ hlt)
        refine q_when (b := false) (by walk_at "etx") (fun z => nomatch z) fun _ H4 e4 => ?_
        have d1 := hsp.2.1
        have d2 := hsp.2.2
        refine q_when (b := false) (by walk_at "etx") (fun z => nomatch z) fun _ H5 e5 => ?_
        refine q_asg (v := .bl (decide (rt n * rt n = n))) (by walk_at "ev") fun H6 e6 => ?_
        rw [hr']
        refine s_when (b := false) (by walk_at "etx") (fun z => nomatch z) fun _ H7 e7 => ?_
        exact ⟨_, _, _, _, _, _, _, rfl, e7 _ _ (e6 _ _ (e5 _ _ (e4 _ _ (e3 _ _ hp2))))⟩
      · obtain ⟨s2, s3, s4, s5, s6, s7, s8, rfl, hp2⟩ := hP
        exact s_ret ev_c fun H3 e3 => q H3
end
theorem all_mk {l : PySem.W.OpenLaw} {w : World} {K : PySem.W.Frag} {h : Heap} {mg : Str → Option Value} {fa f_is_number f_law_mixed f_whole_root f_is_square f_law : Addr} (X : K.In h) (G : h.Ns mainGlobals mg) (hfa : mg "law" = some (.ref fa))
    {od_is_number an_is_number od_law_mixed an_law_mixed od_whole_root an_whole_root od_is_square an_is_square od_law an_law : Option Addr} {sl_is_number sl_law_mixed sl_whole_root sl_is_square sl_law : Array (Option Value)} {oc_is_number kV_is_number dc_is_number pm_is_number cd_is_number ct_is_number oc_law_mixed kV_law_mixed dc_law_mixed pm_law_mixed cd_law_mixed ct_law_mixed oc_whole_root kV_whole_root dc_whole_root pm_whole_root cd_whole_root ct_whole_root oc_is_square kV_is_square dc_is_square pm_is_square cd_is_square ct_is_square oc_law kV_law dc_law pm_law cd_law ct_law : Value}
    (a_is_number : PySem.W.nsIn K mainGlobals "is_number" = some (some (.ref f_is_number))) (l_is_number : K.lookup f_is_number = some ⟨oc_is_number, od_is_number, .func (PySem.W.fnOf "is_number" "is_number" (defArgs s_is_number) (defBody s_is_number) (defScope s_is_number) .none kV_is_number dc_is_number pm_is_number an_is_number cd_is_number ct_is_number), sl_is_number⟩) (c_is_number : PySem.W.codeIn K cd_is_number "is_number" = true) (k_is_number : PySem.W.keepIn K (.ref f_is_number) = true)
    (a_law_mixed : PySem.W.nsIn K mainGlobals "_law_mixed" = some (some (.ref f_law_mixed))) (l_law_mixed : K.lookup f_law_mixed = some ⟨oc_law_mixed, od_law_mixed, .func (PySem.W.fnOf "_law_mixed" "_law_mixed" (defArgs s_law_mixed) (defBody s_law_mixed) (defScope s_law_mixed) .none kV_law_mixed dc_law_mixed pm_law_mixed an_law_mixed cd_law_mixed ct_law_mixed), sl_law_mixed⟩) (c_law_mixed : PySem.W.codeIn K cd_law_mixed "_law_mixed" = true) (k_law_mixed : PySem.W.keepIn K (.ref f_law_mixed) = true)
    (a_whole_root : PySem.W.nsIn K mainGlobals "whole_root" = some (some (.ref f_whole_root))) (l_whole_root : K.lookup f_whole_root = some ⟨oc_whole_root, od_whole_root, .func (PySem.W.fnOf "whole_root" "whole_root" (defArgs s_whole_root) (defBody s_whole_root) (defScope s_whole_root) .none kV_whole_root dc_whole_root pm_whole_root an_whole_root cd_whole_root ct_whole_root), sl_whole_root⟩) (c_whole_root : PySem.W.codeIn K cd_whole_root "whole_root" = true) (k_whole_root : PySem.W.keepIn K (.ref f_whole_root) = true)
    (a_is_square : PySem.W.nsIn K mainGlobals "is_square" = some (some (.ref f_is_square))) (l_is_square : K.lookup f_is_square = some ⟨oc_is_square, od_is_square, .func (PySem.W.fnOf "is_square" "is_square" (defArgs s_is_square) (defBody s_is_square) (defScope s_is_square) .none kV_is_square dc_is_square pm_is_square an_is_square cd_is_square ct_is_square), sl_is_square⟩) (c_is_square : PySem.W.codeIn K cd_is_square "is_square" = true) (k_is_square : PySem.W.keepIn K (.ref f_is_square) = true)
    (a_law : PySem.W.nsIn K mainGlobals "law" = some (some (.ref f_law))) (l_law : K.lookup f_law = some ⟨oc_law, od_law, .func (PySem.W.fnOf "law" "law" (defArgs s_law) (defBody s_law) (defScope s_law) .none kV_law dc_law pm_law an_law cd_law ct_law), sl_law⟩) (c_law : PySem.W.codeIn K cd_law "law" = true) (k_law : PySem.W.keepIn K (.ref f_law) = true)
    (z_bool : PySem.W.nsIn K mainGlobals "bool" = some none)
    (z_enumerate : PySem.W.nsIn K mainGlobals "enumerate" = some none)
    (z_int : PySem.W.nsIn K mainGlobals "int" = some none)
    (z_isinstance : PySem.W.nsIn K mainGlobals "isinstance" = some none)
    (z_max : PySem.W.nsIn K mainGlobals "max" = some none)
    (g_isqrt : PySem.W.nsIn K mainGlobals "isqrt" = some (some (.builtin "math.isqrt")))
    : ∃ fd : FuncData, (∀ (s : Shared) (v : Value), BindsTo s fd ⟨[v], []⟩ [("_law_script", v)]) ∧ ∀ base : Heap, K.In base → base.Ns mainGlobals mg → FnOk l.prog w K mg base CX0 4 fa fd ["_law_script"] (sp_law K) := by
  have e := hfa.symm.trans (PySem.W.mg_of X G a_law)
  cases e
  have F_is_number := fun_mk (st := s_is_number) l_is_number c_is_number k_is_number
  have b_is_number := F_is_number.binds (ps := ["value"]) fun _ _ _ _ _ _ us hl => match us, hl with | [_], _ => rfl
  have F_law_mixed := fun_mk (st := s_law_mixed) l_law_mixed c_law_mixed k_law_mixed
  have b_law_mixed := F_law_mixed.binds (ps := ["_law_number_here", "_law_k"]) fun _ _ _ _ _ _ us hl => match us, hl with | [_, _], _ => rfl
  have F_whole_root := fun_mk (st := s_whole_root) l_whole_root c_whole_root k_whole_root
  have b_whole_root := F_whole_root.binds (ps := ["number"]) fun _ _ _ _ _ _ us hl => match us, hl with | [_], _ => rfl
  have F_is_square := fun_mk (st := s_is_square) l_is_square c_is_square k_is_square
  have b_is_square := F_is_square.binds (ps := ["number"]) fun _ _ _ _ _ _ us hl => match us, hl with | [_], _ => rfl
  have F_law := fun_mk (st := s_law) l_law c_law k_law
  have b_law := F_law.binds (ps := ["_law_script"]) fun _ _ _ _ _ _ us hl => match us, hl with | [_], _ => rfl
  exact ⟨_, fun s v => .of_eq rfl, fun base _ _ => ok_law (P := l.prog) (w := w) (base := base) (T := { a_is_number := _, d_is_number := _, F_is_number := F_is_number, b_is_number := b_is_number, g_is_number := PySem.W.mg_of X G a_is_number, a_law_mixed := _, d_law_mixed := _, F_law_mixed := F_law_mixed, b_law_mixed := b_law_mixed, g_law_mixed := PySem.W.mg_of X G a_law_mixed, a_whole_root := _, d_whole_root := _, F_whole_root := F_whole_root, b_whole_root := b_whole_root, g_whole_root := PySem.W.mg_of X G a_whole_root, a_is_square := _, d_is_square := _, F_is_square := F_is_square, b_is_square := b_is_square, g_is_square := PySem.W.mg_of X G a_is_square, a_law := _, d_law := _, F_law := F_law, b_law := b_law, g_law := PySem.W.mg_of X G a_law, z_bool := PySem.W.mg_none_of X G z_bool, z_enumerate := PySem.W.mg_none_of X G z_enumerate, z_int := PySem.W.mg_none_of X G z_int, z_isinstance := PySem.W.mg_none_of X G z_isinstance, z_max := PySem.W.mg_none_of X G z_max, g_isqrt := PySem.W.mg_of X G g_isqrt })⟩
end K02
open PySem PySem.W PyProof.Rows
set_option maxRecDepth 100000 in
set_option maxHeartbeats 0 in
theorem PySem.Challenge.cw_rootladder_k02_whole_roots_holds : PySem.Challenge.rw_rootladder_k02_whole_roots.Holds := by
  w_on; o_law; k_head; (case hw => w_witness2)
  k_fill
  refine L2.walk_of (l := PySem.Challenge.rw_rootladder_k02_whole_roots) (n := 63) (k := 4) (x := "_law_script") (CX := fun _ => L2.CX0) (sp := fun w => K02.sp_law _) rfl (by decide) rfl ⟨rfl, by decide, by decide⟩ (fun w h Y => PySem.W.kIn_of Y) ?F (fun _ _ a ns hl hb hS => ⟨a, ns, rfl, hS, hl, fun _ => rfl⟩) (fun _ _ _ _ _ h => h)
  case F =>
    intro w mg fa h KX G hmg
    refine' K02.all_mk KX G hmg ?a_is_number ?l_is_number ?c_is_number ?k_is_number ?a_law_mixed ?l_law_mixed ?c_law_mixed ?k_law_mixed ?a_whole_root ?l_whole_root ?c_whole_root ?k_whole_root ?a_is_square ?l_is_square ?c_is_square ?k_is_square ?a_law ?l_law ?c_law ?k_law ?z_bool ?z_enumerate ?z_int ?z_isinstance ?z_max ?g_isqrt
    (case a_is_number => k_is)
    (case l_is_number => k_is)
    (case c_is_number => k_is)
    (case k_is_number => k_is)
    (case a_law_mixed => k_is)
    (case l_law_mixed => k_is)
    (case c_law_mixed => k_is)
    (case k_law_mixed => k_is)
    (case a_whole_root => k_is)
    (case l_whole_root => k_is)
    (case c_whole_root => k_is)
    (case k_whole_root => k_is)
    (case a_is_square => k_is)
    (case l_is_square => k_is)
    (case c_is_square => k_is)
    (case k_is_square => k_is)
    (case a_law => k_is)
    (case l_law => k_is)
    (case c_law => k_is)
    (case k_law => k_is)
    (case z_bool => k_is)
    (case z_enumerate => k_is)
    (case z_int => k_is)
    (case z_isinstance => k_is)
    (case z_max => k_is)
    (case g_isqrt => k_is)
