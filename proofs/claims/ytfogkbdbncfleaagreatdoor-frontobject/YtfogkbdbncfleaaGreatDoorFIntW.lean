/-
  A field that is a number, a field that is a text: the program's and the document's.
-/
import Derived.Test.YtfogkbdbncfleaaGreatDoorFPrSame
import Derived.Test.YtfogkbdbncfleaaGreatDoorFIntP
import Derived.Test.YtfogkbdbncfleaaGreatDoorFCard
import Derived.Test.YtfogkbdbncfleaaGreatDoorFWake1
import Derived.Stop.LaidErr
import Derived.Shelf.Strconv.ErrVarAll
namespace Go.Proofs.YtfogkbdbncfleaaGreatDoor
open Go.RowKit

/-- strconv.ErrSyntax holds an error. -/
def ErrAt (w : World) : Prop := ∃ tp p, w.cell? ⟨Tryz.atoiL_ren.g 15, 0, none⟩ = some (.iface tp p)

theorem ErrAt.kept {w w' : World} (T : ErrAt w) (K : Kept (fun _ => False) w w') : ErrAt w' := by
  obtain ⟨tp, p, h⟩ := T
  exact ⟨tp, p, by rw [World.cell?_of_block (w := w) (K.block _ (World.block_lt_of_cell? w _ h) (fun h => h))]; exact h⟩

theorem star_es : "*" ++ "errors.errorString" = "*errors.errorString" := by decide

theorem row_es (u : TypeId) (h : Tryz.prog.typeName? 3 u = some "*errors.errorString") : u = 155 :=
  typeName_ptr_named (nm := "errors.errorString") (by rw [star_es]; kernel_rfl) (by kernel_rfl) (by decide) u (by rw [star_es]; exact h)

set_option maxRecDepth 100000 in
theorem err_laid {W : World} (h : laidMetH Tryz.prog laidL W) : ErrAt W := by
  have h1 : laidMet Tryz.prog (("math/bits.deBruijn32tab", Rows.laid_math_bits_deBruijn32tab) :: ("math/bits.deBruijn64tab", Rows.laid_math_bits_deBruijn64tab) :: ("internal/strconv.uint64pow10", Rows.laid_internal_strconv_uint64pow10) :: ("unicode/utf8.acceptRanges", Rows.laid_unicode_utf8_acceptRanges) :: ("strconv.ErrRange", Rows.laid_strconv_ErrRange) :: ("strconv.ErrSyntax", .iface "*errors.errorString" (.ptr (.agg [.lit (.string [105, 110, 118, 97, 108, 105, 100, 32, 115, 121, 110, 116, 97, 120])]))) :: laidL.drop 6) W := laid_plain h
  obtain ⟨a, s, hv, _⟩ := laid_sentinel (g := (Tryz.prog.globalNamed "strconv.ErrSyntax").getD 0) (ti := 67) (tp := 155) (te := 157) (ts := 9) (laid_tail (laid_tail (laid_tail (laid_tail (laid_tail h1))))) (by kernel_rfl) (by kernel_rfl) Tryz.underlying67 row_es Tryz.underlying155 Tryz.underlying157 rfl rfl Tryz.underlying9 (by kernel_rfl) (by kernel_rfl)
  exact ⟨_, _, by have h0 := World.var?_cell Tryz.atoiL.m15 hv 0; simpa using h0⟩

/-- What Int answers. -/
def intA (o : Option (List UInt8)) : Value := .tuple #[.int .i64 (intV (o.getD [])), .bool (isNum (o.getD []))]

set_option maxRecDepth 100000 in
set_option maxHeartbeats 2000000 in
theorem int_any (w : World) (a : Option Addr) (c : Nat) (ps : List Pr) (k : List UInt8) (hP : PairsAt w a ps) (hm : ps.length ≤ 1000000) (hV : ∀ p ∈ ps, ValT p.2) (hl : ∀ v, fieldP ps k = some v → v.length ≤ 1000000000) (E : ErrAt w) :
    Calls Tryz.prog 13 #[.slice a ps.length c, .string (mkB k)] w fun e w' => e = .returned (intA (fieldP ps k)) ∧ Kept (fun _ => False) w w' := by
  have hFd := field_any w a c ps k hP hm
  have HE := hid E
  have hcase := fieldP_valT hV k
  unfold fldV at hFd
  clear hP hV E
  generalize fieldP ps k = o at *
  by_cases hn : ∃ v, o = some v ∧ NumT v
  · obtain ⟨v, rfl, hv⟩ := hn
    obtain ⟨h1, h2, h3⟩ := numT_atoi hv
    have hsz := hl v rfl
    have hA : ∀ W, Calls Tryz.prog 36 #[.string (mkB v)] W fun e w' => e = .returned (.tuple #[.int .i64 (intV v), .nilIface]) ∧ Kept (fun _ => False) W w' := fun W =>
      (Any.strconv_Atoi_ok Tryz.atoiL (mkB v) (by rw [mkB_size]; omega) (intV v) h1 W).mono fun e w' ⟨he, hw⟩ => ⟨he, by
        rcases hw with rfl | ⟨t, rfl⟩
        · exact Kept.refl _ _
        · exact bytesKept _ _ _ _⟩
    have HX : Hid (intA (some v) = .tuple #[.int .i64 (intV v), .bool true]) := by
      show intA (some v) = _
      unfold intA
      rw [Option.getD_some, h2]
    simp only [Option.getD_some] at hFd
    clear h1 h2 h3 hsz hl hv hcase
    generalize intV v = z at *
    generalize mkB v = x at *
    generalize mkB k = kn at *
    go_enter Tryz.func13, Tryz.ntmps13
    go_wp2_with (first
      | (go_at_call 11; refine hFd.mono ?_; rintro e w1 ⟨rfl, K1⟩; clear hFd)
      | (go_at_call 36; refine (hA _).mono ?_; rintro e w2 ⟨rfl, K2⟩; clear hA)
      | fail)
    go_ret2
    refine ⟨?_, K1.and K2⟩
    rw [HX.out]
    rfl
  · obtain ⟨v, hv, hsy, hlv, HX⟩ : ∃ v, o.getD [] = v ∧ Lib.atoiAll v = .syntax ∧ v.length ≤ 1000000000 ∧ Hid (intA o = .tuple #[.int .i64 0, .bool false]) := by
      rcases hcase with rfl | ⟨v, rfl, ⟨t, rfl⟩ | h⟩
      · exact ⟨[], rfl, rfl, by simp, (rfl : intA none = _)⟩
      · exact ⟨34 :: t, rfl, textT_atoi t, hl _ rfl, (rfl : intA (some (34 :: t)) = _)⟩
      · exact absurd ⟨v, rfl, h⟩ hn
    have hA : ∀ W, ErrAt W → Calls Tryz.prog 36 #[.string (mkB v)] W fun e w' => ∃ t p, e = .returned (.tuple #[.int .i64 0, .iface t p]) ∧ Kept (fun _ => False) W w' := fun W E => by
      obtain ⟨tp, p, hE⟩ := E
      exact (Any.strconv_Atoi_syntax Tryz.atoiL (mkB v) (by rw [mkB_size]; omega) hsy _ W hE (.inr ⟨tp, p, rfl⟩)).mono fun e w' ⟨N, he, _, _, hb⟩ => ⟨_, _, he, below_kept hb⟩
    rw [hv] at hFd
    clear hsy hlv hl hcase hn hv
    generalize o.isSome = q at *
    generalize mkB v = x at *
    generalize mkB k = kn at *
    go_enter Tryz.func13, Tryz.ntmps13
    go_wp2_with (first
      | (go_at_call 11; refine hFd.mono ?_; rintro e w1 ⟨rfl, K1⟩; clear hFd; have hA1 := hA w1 (HE.out.kept K1); clear hA)
      | (go_at_call 36; refine hA1.mono ?_; rintro e w2 ⟨t2, p2, rfl, K2⟩; clear hA1)
      | fail)
    go_ret2
    refine ⟨?_, K1.and K2⟩
    rw [HX.out]
    rfl

/-- The document's loop over a number's text. -/
def intF : List UInt8 → Int → Int → Int
  | [], n, g => g * n
  | c :: r, n, g => if c = 45 then intF r n (-1) else intF r (10 * n + ((c.toNat : Int) - 48)) g

theorem intF_dig (ds : List UInt8) (hd : ∀ c ∈ ds, isDig c = true) : ∀ (n : Nat) (g : Int), intF ds n g = g * (digV n ds : Int) := by
  induction ds with
  | nil => intro n g; rfl
  | cons c r ih =>
    intro n g
    have hc := hd c List.mem_cons_self
    have hr := dig_range hc
    unfold intF digV
    rw [if_neg (dig_ne hc).1, ← ih (fun x hx => hd x (List.mem_cons_of_mem _ hx))]
    congr 1
    omega

theorem intF_num {v : List UInt8} (h : NumT v) : intF v 0 1 = intV v ∧ v.length ≤ 16 ∧ v ≠ [] ∧ (∀ c ∈ v, c = 45 ∨ isDig c = true) ∧ ∀ c r, v = c :: r → c ≠ 34 := by
  have hne := (numT_atoi h).2.2
  obtain ⟨ds, hv, h0, hl, hd⟩ := h
  rcases hv with rfl | rfl
  · refine ⟨?_, by omega, hne, fun c hc => .inr (hd c hc), fun c r e => (dig_ne (hd c (by rw [e]; exact List.mem_cons_self))).2.1⟩
    have := intF_dig v hd 0 1
    rw [show ((0 : Nat) : Int) = 0 from rfl] at this
    rw [this, Int.one_mul]
    cases v with
    | nil => exact absurd rfl h0
    | cons c r =>
      have n1 := dig_ne (hd c List.mem_cons_self)
      unfold intV
      simp only
      rw [if_neg n1.1, if_neg n1.2.1]
  · refine ⟨?_, by rw [List.length_cons]; omega, hne, fun c hc => ?_, fun c r e => ?_⟩
    · have := intF_dig ds hd 0 (-1)
      rw [show ((0 : Nat) : Int) = 0 from rfl] at this
      unfold intF intV
      simp only [if_true]
      rw [this]
      omega
    · rcases List.mem_cons.1 hc with e | e
      · exact .inl e
      · exact .inr (hd c e)
    · injection e with e1 _
      subst e1
      decide

end Go.Proofs.YtfogkbdbncfleaaGreatDoor
