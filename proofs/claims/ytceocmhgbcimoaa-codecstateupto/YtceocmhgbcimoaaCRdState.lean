/-
  A state: the codec's ReadState.
-/
import Derived.Test.YtceocmhgbcimoaaCStateW
namespace Go.Proofs.Ytceocmhgbcimoaa
open Go.RowKit

/-- What ReadState answers. -/
def StateOut (w' : World) (base : Nat) (e : Ending) : Except Nat StateD → Prop
  | .error pl => e = .returned (.tuple #[.agg #[.string ⟨#[]⟩, .string ⟨#[]⟩, .string ⟨#[]⟩, .string ⟨#[]⟩, .int .i64 0, .string ⟨#[]⟩, .slice none 0 0, .slice none 0 0, .int .i64 0], .int .i64 pl, .int .i64 2])
  | .ok (x0, x1, x2, x3, x4, x5, (_, ns), (_, gs), x8) => ∃ vn vg, e = .returned (.tuple #[.agg #[.string x0, .string x1, .string x2, .string x3, .int .i64 x4, .string x5, vn, vg, .int .i64 x8], .int .i64 0, .int .i64 0]) ∧ w'.ownsRow base 122 3 vn ns.length (ns.flatMap nodeC) ∧ w'.ownsRow base 128 2 vg gs.length (gs.flatMap signalC)

def stVal (bad : Bool) (at_ : Nat) (x0 x1 x2 x3 : ByteArray) (x4 : Int) (x5 : ByteArray) (vn vg : Value) (x8 : Int) : Value := if bad then .tuple #[.agg #[.string ⟨#[]⟩, .string ⟨#[]⟩, .string ⟨#[]⟩, .string ⟨#[]⟩, .int .i64 0, .string ⟨#[]⟩, .slice none 0 0, .slice none 0 0, .int .i64 0], .int .i64 at_, .int .i64 2] else .tuple #[.agg #[.string x0, .string x1, .string x2, .string x3, .int .i64 x4, .string x5, vn, vg, .int .i64 x8], .int .i64 0, .int .i64 0]

set_option maxRecDepth 100000 in
set_option maxHeartbeats 400000 in
theorem outState_any {w : World} {r : Nat} {a : Option Addr} {m c : Nat} {raw : List Int} {at_ : Nat} {bad : Bool} (A : RAt w r a m c raw at_ bad) (x0 x1 x2 x3 : ByteArray) (x4 : Int) (x5 : ByteArray) (vn vg : Value) (x8 : Int) (an : Option Addr) (nn cn : Nat) (ag : Option Addr) (ng cg : Nat) (hn : vn = .slice an nn cn) (hg : vg = .slice ag ng cg) :
    Calls Try.prog 97 #[.pointer (some ⟨r, 0, none⟩), .agg #[.string x0, .string x1, .string x2, .string x3, .int .i64 x4, .string x5, vn, vg, .int .i64 x8]] w fun e w' => e = .returned (stVal bad at_ x0 x1 x2 x3 x4 x5 vn vg x8) ∧ Kept (fun _ => False) w w' := by
  have c1 := A.c1
  have c2 := A.c2
  have hlt := A.lt
  subst hn hg
  clear A
  cases bad with
  | true =>
    simp only [stVal, if_true]
    have c3 : (((w.alloc (.cells #[.string x0, .string x1, .string x2, .string x3, .int .i64 x4, .string x5, .slice an nn cn, .slice ag ng cg, .int .i64 x8] 72)).alloc (.cells #[.string ⟨#[]⟩, .string ⟨#[]⟩, .string ⟨#[]⟩, .string ⟨#[]⟩, .int .i64 0, .string ⟨#[]⟩, .slice none 0 0, .slice none 0 0, .int .i64 0] 72)).alloc (.cells #[.string ⟨#[]⟩, .string ⟨#[]⟩, .string ⟨#[]⟩, .string ⟨#[]⟩, .int .i64 0, .string ⟨#[]⟩, .slice none 0 0, .slice none 0 0, .int .i64 0] 72)).cell? ⟨r, 1, none⟩ = some (.int .i64 at_) :=
      (cell_keep (((Kept.alloc (fun _ => False) _ _).and (Kept.alloc _ _ _)).and (Kept.alloc _ _ _)) c1 (fun h => h)).1
    go_enter Try.func97, Try.ntmps97
    go_wp2
    go_region
    go_wp2
    refine bodyPost_ret (by simp [results, Try.results97, go_sem]; try rfl) rfl ?_
    exact ⟨rfl, (((Kept.alloc (fun _ => False) _ _).and (Kept.alloc _ _ _)).and (Kept.alloc _ _ _)).and (Kept.drew _ _)⟩
  | false =>
    simp only [stVal, Bool.false_eq_true, if_false]
    go_enter Try.func97, Try.ntmps97
    go_wp2
    refine bodyPost_ret (by simp [results, Try.results97, go_sem]; try rfl) rfl ?_
    exact ⟨rfl, (Kept.alloc (fun _ => False) _ _).and (Kept.alloc _ _ _)⟩

section
variable {w0 w w' : World} {T : TypeId} {R E r : Nat} {a : Option Addr} {m c : Nat} {raw : List Int} {at_ : Nat} {bad : Bool} {zs cs : Array Value}

theorem RecSt.ofList {α : Type} {ElT : TypeId} {sz : Nat} {ce : α → List Value} {o : Nat} {at' : Nat} {bad' : Bool} {xs : List α} {v : Value} (S : RecSt w0 w T R E r a m c raw at_ bad zs cs) (L : LsSt ElT sz ce w w' E r T o cs a m c raw at' bad' xs v) : RecSt w0 w' T R E r a m c raw at' bad' zs (cs.setIfInBounds o v) ∧ w'.ownsRow (r + 1) ElT sz v xs.length (xs.flatMap ce) ∧ (∀ e2 s2 v2 n2 us, w.ownsRow (r + 1) e2 s2 v2 n2 us → w'.ownsRow (r + 1) e2 s2 v2 n2 us) := by
  have h1 := S.r1
  have h2 := S.r2
  have h3 := S.r3
  have hr := S.rd.lt
  refine ⟨⟨L.rd, L.lc, (L.kept.block R (by omega) (by intro h; rcases h with h | h <;> omega)).trans S.res, S.kept.trans L.kept (fun k h => .inr (by rcases h with h | h <;> omega)), S.old, h1, h2, h3⟩, ownsRow_mono L.row (by omega), ?_⟩
  intro e2 s2 v2 n2 us row
  refine ownsRow_block' row (fun k hk => L.kept.block k (row.lt k hk).2 (fun h => ?_))
  have := (row.lt k hk).1
  rcases h with h | h <;> omega

/-- A list of the record was read. -/
def StL {α : Type} (ElT : TypeId) (sz : Nat) (ce : α → List Value) (w0 w w' : World) (T : TypeId) (R E r : Nat) (a : Option Addr) (m c : Nat) (raw : List Int) (bad : Bool) (zs cs : Array Value) (o : Nat) (e : Ending) : Except Nat ((Int × List α) × Nat) → Prop
  | .error pl => e = .returned (.bool false) ∧ ∃ an nn cn, RecSt w0 w' T R E r a m c raw pl true zs (cs.setIfInBounds o (.slice an nn cn))
  | .ok ((_, xs), i) => e = .returned (.bool true) ∧ ∃ an cn, RecSt w0 w' T R E r a m c raw i bad zs (cs.setIfInBounds o (.slice an xs.length cn)) ∧ w'.ownsRow (r + 1) ElT sz (.slice an xs.length cn) xs.length (xs.flatMap ce) ∧ (∀ e2 s2 v2 n2 us, w.ownsRow (r + 1) e2 s2 v2 n2 us → w'.ownsRow (r + 1) e2 s2 v2 n2 us)

theorem StL.of {α : Type} {ElT : TypeId} {sz : Nat} {ce : α → List Value} {o : Nat} {e : Ending} {x : Except Nat ((Int × List α) × Nat)} (S : RecSt w0 w T R E r a m c raw at_ bad zs cs) (h : LsEnd ElT sz ce w w' E r T o cs a m c raw bad e x) : StL ElT sz ce w0 w w' T R E r a m c raw bad zs cs o e x := by
  cases x with
  | error pl =>
    obtain ⟨rfl, xs, v, L⟩ := h
    obtain ⟨a4, c4, rfl⟩ := ownsRow_shape L.row
    exact ⟨rfl, _, _, _, (S.ofList L).1⟩
  | ok y =>
    obtain ⟨⟨n, xs⟩, i⟩ := y
    obtain ⟨rfl, v, L⟩ := h
    obtain ⟨a4, c4, rfl⟩ := ownsRow_shape L.row
    exact ⟨rfl, _, _, S.ofList L⟩

theorem st_nodes (S : RecSt w0 w T R E r a m c raw at_ bad zs cs) (o : Nat) (hv : cs[o]? = some (.slice none 0 0)) (hm : m ≤ 1000000000) :
    Calls Try.prog 92 #[.pointer (some ⟨r, 0, none⟩), .pointer (some ⟨E, o, none⟩), .func (.func 93) #[] #[]] w fun e w' => StL 122 3 nodeC w0 w w' T R E r a m c raw bad zs cs o e (rdLst rdNode raw at_) :=
  (rnodes_any (LsSt.new S.rd S.rcd hv (by have := S.r3; omega) S.na) hm).mono (fun _ _ h => StL.of S h)

theorem st_signals (S : RecSt w0 w T R E r a m c raw at_ bad zs cs) (o : Nat) (hv : cs[o]? = some (.slice none 0 0)) (hm : m ≤ 1000000000) :
    Calls Try.prog 94 #[.pointer (some ⟨r, 0, none⟩), .pointer (some ⟨E, o, none⟩), .func (.func 95) #[] #[]] w fun e w' => StL 128 2 signalC w0 w w' T R E r a m c raw bad zs cs o e (rdLst rdSignal raw at_) :=
  (rsignals_any (LsSt.new S.rd S.rcd hv (by have := S.r3; omega) S.na) hm).mono (fun _ _ h => StL.of S h)

theorem row_step {e2 : TypeId} {s2 n2 : Nat} {v2 : Value} {us : List Value} (K : Kept (fun k => k = r) w w') (row : w.ownsRow (r + 1) e2 s2 v2 n2 us) : w'.ownsRow (r + 1) e2 s2 v2 n2 us :=
  ownsRow_block' row (fun k hk => K.block k (row.lt k hk).2 (fun h => by have := (row.lt k hk).1; have h' : k = r := h; omega))

theorem st_num (S : RecSt w0 w T R E r a m c raw at_ bad zs cs) (o : Nat) (u : Value) (hu : cs[o]? = some u) (lo hi : Int) :
    Calls Try.prog 91 #[.pointer (some ⟨r, 0, none⟩), .pointer (some ⟨E, o, none⟩), .int .i64 lo, .int .i64 hi] w fun e w' => PartSt (Value.int .i64) w0 w' T R E r a m c raw bad zs cs o e (rdNum lo hi raw at_) ∧ (∀ e2 s2 v2 n2 us, w.ownsRow (r + 1) e2 s2 v2 n2 us → w'.ownsRow (r + 1) e2 s2 v2 n2 us) := by
  refine (rnumber_any S.rd E o u (S.cell hu).1 (S.cell hu).2 (by have := S.r3; omega) S.na lo hi).mono (fun _ w' h => ⟨S.part h, ?_⟩)
  intro e2 s2 v2 n2 us row
  have hE := S.r3
  have key : ∀ w1, Kept (fun k => k = r) w w1 → ∀ v, (w1.setCell ⟨E, o, none⟩ v).ownsRow (r + 1) e2 s2 v2 n2 us := fun w1 K v => by
    have r1 := row_step K row
    exact ownsRow_block' r1 (fun k hk => Below.heap_setCell _ _ _ _ (fun e => by have := (r1.lt k hk).1; have e' : k = E := e; omega))
  cases hx : rdNum lo hi raw at_ with
  | error pl =>
    rw [hx] at h
    obtain ⟨_, A, w1, K, rfl | ⟨v, rfl⟩⟩ := h
    · exact row_step K row
    · exact key w1 K _
  | ok y =>
    rw [hx] at h
    obtain ⟨_, A, w1, K, rfl⟩ := h
    exact key w1 K _

theorem st_close (S : RecSt w0 w T R E r a m c raw at_ bad zs cs) :
    Calls Try.prog 96 #[.pointer (some ⟨r, 0, none⟩)] w fun e w' => e = .returned (.tuple #[]) ∧ RecSt w0 w' T R E r a m c raw at_ (bad || decide (at_ < m)) zs cs ∧ (∀ e2 s2 v2 n2 us, w.ownsRow (r + 1) e2 s2 v2 n2 us → w'.ownsRow (r + 1) e2 s2 v2 n2 us) :=
  (rclose_any S.rd).mono (fun _ _ ⟨h, A, K⟩ => ⟨h, S.to K A, fun _ _ _ _ _ row => row_step K row⟩)
end

theorem st_err0 {raw : List Int} {pl : Nat}   (h0 : rdText raw 0 = .error pl) : rdWhole rdState raw = .error pl := by simp [rdWhole, rdState, rdBind, h0]
theorem st_err1 {raw : List Int} {pl : Nat} {i0 : Nat} {x0 : ByteArray} (h0 : rdText raw 0 = .ok (x0, i0)) (h1 : rdText raw i0 = .error pl) : rdWhole rdState raw = .error pl := by simp [rdWhole, rdState, rdBind, h0, h1]
theorem st_err2 {raw : List Int} {pl : Nat} {i0 : Nat} {i1 : Nat} {x0 : ByteArray} {x1 : ByteArray} (h0 : rdText raw 0 = .ok (x0, i0)) (h1 : rdText raw i0 = .ok (x1, i1)) (h2 : rdText raw i1 = .error pl) : rdWhole rdState raw = .error pl := by simp [rdWhole, rdState, rdBind, h0, h1, h2]
theorem st_err3 {raw : List Int} {pl : Nat} {i0 : Nat} {i1 : Nat} {i2 : Nat} {x0 : ByteArray} {x1 : ByteArray} {x2 : ByteArray} (h0 : rdText raw 0 = .ok (x0, i0)) (h1 : rdText raw i0 = .ok (x1, i1)) (h2 : rdText raw i1 = .ok (x2, i2)) (h3 : rdText raw i2 = .error pl) : rdWhole rdState raw = .error pl := by simp [rdWhole, rdState, rdBind, h0, h1, h2, h3]
theorem st_err4 {raw : List Int} {pl : Nat} {i0 : Nat} {i1 : Nat} {i2 : Nat} {i3 : Nat} {x0 : ByteArray} {x1 : ByteArray} {x2 : ByteArray} {x3 : ByteArray} (h0 : rdText raw 0 = .ok (x0, i0)) (h1 : rdText raw i0 = .ok (x1, i1)) (h2 : rdText raw i1 = .ok (x2, i2)) (h3 : rdText raw i2 = .ok (x3, i3)) (h4 : rdNum 0 4 raw i3 = .error pl) : rdWhole rdState raw = .error pl := by simp [rdWhole, rdState, rdBind, h0, h1, h2, h3, h4]
theorem st_err5 {raw : List Int} {pl : Nat} {i0 : Nat} {i1 : Nat} {i2 : Nat} {i3 : Nat} {i4 : Nat} {x0 : ByteArray} {x1 : ByteArray} {x2 : ByteArray} {x3 : ByteArray} {x4 : Int} (h0 : rdText raw 0 = .ok (x0, i0)) (h1 : rdText raw i0 = .ok (x1, i1)) (h2 : rdText raw i1 = .ok (x2, i2)) (h3 : rdText raw i2 = .ok (x3, i3)) (h4 : rdNum 0 4 raw i3 = .ok (x4, i4)) (h5 : rdText raw i4 = .error pl) : rdWhole rdState raw = .error pl := by simp [rdWhole, rdState, rdBind, h0, h1, h2, h3, h4, h5]
theorem st_err6 {raw : List Int} {pl : Nat} {i0 : Nat} {i1 : Nat} {i2 : Nat} {i3 : Nat} {i4 : Nat} {i5 : Nat} {x0 : ByteArray} {x1 : ByteArray} {x2 : ByteArray} {x3 : ByteArray} {x4 : Int} {x5 : ByteArray} (h0 : rdText raw 0 = .ok (x0, i0)) (h1 : rdText raw i0 = .ok (x1, i1)) (h2 : rdText raw i1 = .ok (x2, i2)) (h3 : rdText raw i2 = .ok (x3, i3)) (h4 : rdNum 0 4 raw i3 = .ok (x4, i4)) (h5 : rdText raw i4 = .ok (x5, i5)) (h6 : rdLst rdNode raw i5 = .error pl) : rdWhole rdState raw = .error pl := by simp [rdWhole, rdState, rdBind, h0, h1, h2, h3, h4, h5, h6]
theorem st_err7 {raw : List Int} {pl : Nat} {i0 : Nat} {i1 : Nat} {i2 : Nat} {i3 : Nat} {i4 : Nat} {i5 : Nat} {i6 : Nat} {x0 : ByteArray} {x1 : ByteArray} {x2 : ByteArray} {x3 : ByteArray} {x4 : Int} {x5 : ByteArray} {nn : Int} {ns : List NodeD} (h0 : rdText raw 0 = .ok (x0, i0)) (h1 : rdText raw i0 = .ok (x1, i1)) (h2 : rdText raw i1 = .ok (x2, i2)) (h3 : rdText raw i2 = .ok (x3, i3)) (h4 : rdNum 0 4 raw i3 = .ok (x4, i4)) (h5 : rdText raw i4 = .ok (x5, i5)) (h6 : rdLst rdNode raw i5 = .ok ((nn, ns), i6)) (h7 : rdLst rdSignal raw i6 = .error pl) : rdWhole rdState raw = .error pl := by simp [rdWhole, rdState, rdBind, h0, h1, h2, h3, h4, h5, h6, h7]
theorem st_err8 {raw : List Int} {pl : Nat} {i0 : Nat} {i1 : Nat} {i2 : Nat} {i3 : Nat} {i4 : Nat} {i5 : Nat} {i6 : Nat} {i7 : Nat} {x0 : ByteArray} {x1 : ByteArray} {x2 : ByteArray} {x3 : ByteArray} {x4 : Int} {x5 : ByteArray} {nn : Int} {ns : List NodeD} {ng : Int} {gs : List SignalD} (h0 : rdText raw 0 = .ok (x0, i0)) (h1 : rdText raw i0 = .ok (x1, i1)) (h2 : rdText raw i1 = .ok (x2, i2)) (h3 : rdText raw i2 = .ok (x3, i3)) (h4 : rdNum 0 4 raw i3 = .ok (x4, i4)) (h5 : rdText raw i4 = .ok (x5, i5)) (h6 : rdLst rdNode raw i5 = .ok ((nn, ns), i6)) (h7 : rdLst rdSignal raw i6 = .ok ((ng, gs), i7)) (h8 : rdNum 0 4503599627370496 raw i7 = .error pl) : rdWhole rdState raw = .error pl := by simp [rdWhole, rdState, rdBind, h0, h1, h2, h3, h4, h5, h6, h7, h8]
theorem st_ok {raw : List Int} {i0 : Nat} {i1 : Nat} {i2 : Nat} {i3 : Nat} {i4 : Nat} {i5 : Nat} {i6 : Nat} {i7 : Nat} {i8 : Nat} {x0 : ByteArray} {x1 : ByteArray} {x2 : ByteArray} {x3 : ByteArray} {x4 : Int} {x5 : ByteArray} {nn : Int} {ns : List NodeD} {ng : Int} {gs : List SignalD} {x8 : Int} (h0 : rdText raw 0 = .ok (x0, i0)) (h1 : rdText raw i0 = .ok (x1, i1)) (h2 : rdText raw i1 = .ok (x2, i2)) (h3 : rdText raw i2 = .ok (x3, i3)) (h4 : rdNum 0 4 raw i3 = .ok (x4, i4)) (h5 : rdText raw i4 = .ok (x5, i5)) (h6 : rdLst rdNode raw i5 = .ok ((nn, ns), i6)) (h7 : rdLst rdSignal raw i6 = .ok ((ng, gs), i7)) (h8 : rdNum 0 4503599627370496 raw i7 = .ok (x8, i8)) : rdWhole rdState raw = if decide (i8 < raw.length) then .error i8 else .ok (x0, x1, x2, x3, x4, x5, (nn, ns), (ng, gs), x8) := by simp [rdWhole, rdState, rdBind, h0, h1, h2, h3, h4, h5, h6, h7, h8]

/-- What holds at the label. -/
def stJ (w : World) (a : Option Addr) (m c : Nat) (raw : List Int) (a' : Act) (w' : World) : Prop := ∃ (v8 u9 u10 u11 u12 u13 u14 u15 u16 u17 u18 u19 u20 u21 u22 u23 u24 u25 u26 u27 u28 u29 u30 u31 u32 u33 u34 u35 u36 u37 u38 u39 u40 u41 : Value) (x0 x1 x2 x3 : ByteArray) (x4 : Int) (x5 : ByteArray) (an : Option Addr) (nn cn : Nat) (ag : Option Addr) (ng cg : Nat) (x8 : Int) (at_ : Nat) (bad : Bool),
  a' = { tmps := #[.slice a m c, undef, .pointer (some ⟨w.heap.size, 0, none⟩), .int .i64 0, .int .i64 0, .pointer (some ⟨w.heap.size + 1, 0, none⟩), .pointer (some ⟨w.heap.size + 1 + 1, 0, none⟩), .slice a m c, v8, u9, u10, u11, u12, u13, u14, u15, u16, u17, u18, u19, u20, u21, u22, u23, u24, u25, u26, u27, u28, u29, u30, u31, u32, u33, u34, u35, u36, u37, u38, u39, u40, u41], defers := [] } ∧
  RecSt w w' 72 w.heap.size (w.heap.size + 1) (w.heap.size + 1 + 1) a m c raw at_ bad #[.string ⟨#[]⟩, .string ⟨#[]⟩, .string ⟨#[]⟩, .string ⟨#[]⟩, .int .i64 0, .string ⟨#[]⟩, .slice none 0 0, .slice none 0 0, .int .i64 0] #[.string x0, .string x1, .string x2, .string x3, .int .i64 x4, .string x5, .slice an nn cn, .slice ag ng cg, .int .i64 x8] ∧
  (bad = true → rdWhole rdState raw = .error at_) ∧ (bad = false → ∃ (kn : Int) (ns : List NodeD) (kg : Int) (gs : List SignalD), rdWhole rdState raw = .ok (x0, x1, x2, x3, x4, x5, (kn, ns), (kg, gs), x8) ∧ w'.ownsRow (w.heap.size + 1 + 1 + 1) 122 3 (.slice an nn cn) ns.length (ns.flatMap nodeC) ∧ w'.ownsRow (w.heap.size + 1 + 1 + 1) 128 2 (.slice ag ng cg) gs.length (gs.flatMap signalC))

set_option maxRecDepth 100000 in
set_option maxHeartbeats 4000000 in
theorem readState_any (w : World) (a : Option Addr) (m c : Nat) (raw : List Int) (B : BytesAt w a m c raw) (hm : m ≤ 1000000000) :
    Calls Try.prog 42 #[.slice a m c] w fun e w' => StateOut w' w.heap.size e (rdWhole rdState raw) ∧ Kept (fun _ => False) w w' := by
  have S0 := RecSt.new B (by omega) 72 #[.string ⟨#[]⟩, .string ⟨#[]⟩, .string ⟨#[]⟩, .string ⟨#[]⟩, .int .i64 0, .string ⟨#[]⟩, .slice none 0 0, .slice none 0 0, .int .i64 0]
  have hlen := B.len
  clear B
  go_enter Try.func42, Try.ntmps42
  go_wp2
  refine wp_scope_loop 0 (stJ w a m c raw) (fun _ _ => 0) rfl ?_ ?_
  · clear S0
    rintro a' w' ⟨v8, u9, u10, u11, u12, u13, u14, u15, u16, u17, u18, u19, u20, u21, u22, u23, u24, u25, u26, u27, u28, u29, u30, u31, u32, u33, u34, u35, u36, u37, u38, u39, u40, u41, x0, x1, x2, x3, x4, x5, an, nn, cn, ag, ng, cg, x8, at_, bad, rfl, S, hx1, hx2⟩
    have hO := outState_any S.rd x0 x1 x2 x3 x4 x5 (.slice an nn cn) (.slice ag ng cg) x8 an nn cn ag ng cg rfl rfl
    have e0 := (S.cell (o := 0) rfl).1
    have e1 := (S.cell (o := 1) rfl).1
    have e2 := (S.cell (o := 2) rfl).1
    have e3 := (S.cell (o := 3) rfl).1
    have e4 := (S.cell (o := 4) rfl).1
    have e5 := (S.cell (o := 5) rfl).1
    have e6 := (S.cell (o := 6) rfl).1
    have e7 := (S.cell (o := 7) rfl).1
    have e8 := (S.cell (o := 8) rfl).1
    have HS : Hid _ := S
    have KS := S.kept
    clear S
    cases bad with
    | true =>
      have HX : Hid _ := hx1 rfl
      simp only [stVal, if_true] at hO
      clear hx1 hx2
      have hres : ∀ w1, Kept (fun _ => False) w' w1 → ((w1.cell? ⟨w.heap.size, 0, none⟩ = some (.string ⟨#[]⟩) ∧ w1.frozen? ⟨w.heap.size, 0, none⟩ = false) ∧ (w1.cell? ⟨w.heap.size, 1, none⟩ = some (.string ⟨#[]⟩) ∧ w1.frozen? ⟨w.heap.size, 1, none⟩ = false) ∧ (w1.cell? ⟨w.heap.size, 2, none⟩ = some (.string ⟨#[]⟩) ∧ w1.frozen? ⟨w.heap.size, 2, none⟩ = false) ∧ (w1.cell? ⟨w.heap.size, 3, none⟩ = some (.string ⟨#[]⟩) ∧ w1.frozen? ⟨w.heap.size, 3, none⟩ = false) ∧ (w1.cell? ⟨w.heap.size, 4, none⟩ = some (.int .i64 0) ∧ w1.frozen? ⟨w.heap.size, 4, none⟩ = false) ∧ (w1.cell? ⟨w.heap.size, 5, none⟩ = some (.string ⟨#[]⟩) ∧ w1.frozen? ⟨w.heap.size, 5, none⟩ = false) ∧ (w1.cell? ⟨w.heap.size, 6, none⟩ = some (.slice none 0 0) ∧ w1.frozen? ⟨w.heap.size, 6, none⟩ = false) ∧ (w1.cell? ⟨w.heap.size, 7, none⟩ = some (.slice none 0 0) ∧ w1.frozen? ⟨w.heap.size, 7, none⟩ = false) ∧ (w1.cell? ⟨w.heap.size, 8, none⟩ = some (.int .i64 0) ∧ w1.frozen? ⟨w.heap.size, 8, none⟩ = false)) ∧ w1.heap[w.heap.size]? = some (.cells #[.string ⟨#[]⟩, .string ⟨#[]⟩, .string ⟨#[]⟩, .string ⟨#[]⟩, .int .i64 0, .string ⟨#[]⟩, .slice none 0 0, .slice none 0 0, .int .i64 0] 72 (0, 0)) := fun w1 K => by
        have hb := (K.block w.heap.size (Nat.lt_trans HS.out.r2 (Nat.lt_trans HS.out.r3 HS.out.rd.lt)) (fun h => h)).trans HS.out.res
        exact ⟨by simp [World.cell?, World.frozen?, hb], hb⟩
      go_wp2_with (first
        | (go_at_call 97; refine hO.mono ?_; rintro e w1 ⟨rfl, K1⟩; obtain ⟨hr1, hb1⟩ := hres w1 K1; have HB : Hid _ := hb1; clear hO hres hb1)
        | fail)
      have hR : ((((((((((w1.setCell ⟨w.heap.size, 0, none⟩ (.string ⟨#[]⟩)).setCell ⟨w.heap.size, 1, none⟩ (.string ⟨#[]⟩)).setCell ⟨w.heap.size, 2, none⟩ (.string ⟨#[]⟩)).setCell ⟨w.heap.size, 3, none⟩ (.string ⟨#[]⟩)).setCell ⟨w.heap.size, 4, none⟩ (.int .i64 0)).setCell ⟨w.heap.size, 5, none⟩ (.string ⟨#[]⟩)).setCell ⟨w.heap.size, 6, none⟩ (.slice none 0 0)).setCell ⟨w.heap.size, 7, none⟩ (.slice none 0 0)).setCell ⟨w.heap.size, 8, none⟩ (.int .i64 0))).heap[w.heap.size]? = some (.cells #[.string ⟨#[]⟩, .string ⟨#[]⟩, .string ⟨#[]⟩, .string ⟨#[]⟩, .int .i64 0, .string ⟨#[]⟩, .slice none 0 0, .slice none 0 0, .int .i64 0] 72 (0, 0)) := by simp [World.setCell, Array.getElem?_modify, HB.out]
      have g0 := cellOf hR (o := 0) rfl
      have g1 := cellOf hR (o := 1) rfl
      have g2 := cellOf hR (o := 2) rfl
      have g3 := cellOf hR (o := 3) rfl
      have g4 := cellOf hR (o := 4) rfl
      have g5 := cellOf hR (o := 5) rfl
      have g6 := cellOf hR (o := 6) rfl
      have g7 := cellOf hR (o := 7) rfl
      have g8 := cellOf hR (o := 8) rfl
      simp only [Exit.jump]
      refine bodyPost_ret (by simp [results, Try.results42, go_sem, g0, g1, g2, g3, g4, g5, g6, g7, g8]; try rfl) rfl ?_
      rw [HX.out]
      exact ⟨rfl, ((((((((((KS.and K1).trans (Kept.setCell (S := fun k => k = w.heap.size) _ _ _ rfl) (fun k h => .inr (by omega))).trans (Kept.setCell (S := fun k => k = w.heap.size) _ _ _ rfl) (fun k h => .inr (by omega))).trans (Kept.setCell (S := fun k => k = w.heap.size) _ _ _ rfl) (fun k h => .inr (by omega))).trans (Kept.setCell (S := fun k => k = w.heap.size) _ _ _ rfl) (fun k h => .inr (by omega))).trans (Kept.setCell (S := fun k => k = w.heap.size) _ _ _ rfl) (fun k h => .inr (by omega))).trans (Kept.setCell (S := fun k => k = w.heap.size) _ _ _ rfl) (fun k h => .inr (by omega))).trans (Kept.setCell (S := fun k => k = w.heap.size) _ _ _ rfl) (fun k h => .inr (by omega))).trans (Kept.setCell (S := fun k => k = w.heap.size) _ _ _ rfl) (fun k h => .inr (by omega))).trans (Kept.setCell (S := fun k => k = w.heap.size) _ _ _ rfl) (fun k h => .inr (by omega)))⟩
    | false =>
      obtain ⟨kn, ns, kg, gs, hx, rn, rg⟩ := hx2 rfl
      have HX : Hid _ := hx
      have HN : Hid _ := rn
      have HG : Hid _ := rg
      simp only [stVal, Bool.false_eq_true, if_false] at hO
      clear hx1 hx2 hx rn rg
      have hres : ∀ w1, Kept (fun _ => False) w' w1 → ((w1.cell? ⟨w.heap.size, 0, none⟩ = some (.string ⟨#[]⟩) ∧ w1.frozen? ⟨w.heap.size, 0, none⟩ = false) ∧ (w1.cell? ⟨w.heap.size, 1, none⟩ = some (.string ⟨#[]⟩) ∧ w1.frozen? ⟨w.heap.size, 1, none⟩ = false) ∧ (w1.cell? ⟨w.heap.size, 2, none⟩ = some (.string ⟨#[]⟩) ∧ w1.frozen? ⟨w.heap.size, 2, none⟩ = false) ∧ (w1.cell? ⟨w.heap.size, 3, none⟩ = some (.string ⟨#[]⟩) ∧ w1.frozen? ⟨w.heap.size, 3, none⟩ = false) ∧ (w1.cell? ⟨w.heap.size, 4, none⟩ = some (.int .i64 0) ∧ w1.frozen? ⟨w.heap.size, 4, none⟩ = false) ∧ (w1.cell? ⟨w.heap.size, 5, none⟩ = some (.string ⟨#[]⟩) ∧ w1.frozen? ⟨w.heap.size, 5, none⟩ = false) ∧ (w1.cell? ⟨w.heap.size, 6, none⟩ = some (.slice none 0 0) ∧ w1.frozen? ⟨w.heap.size, 6, none⟩ = false) ∧ (w1.cell? ⟨w.heap.size, 7, none⟩ = some (.slice none 0 0) ∧ w1.frozen? ⟨w.heap.size, 7, none⟩ = false) ∧ (w1.cell? ⟨w.heap.size, 8, none⟩ = some (.int .i64 0) ∧ w1.frozen? ⟨w.heap.size, 8, none⟩ = false)) ∧ w1.heap[w.heap.size]? = some (.cells #[.string ⟨#[]⟩, .string ⟨#[]⟩, .string ⟨#[]⟩, .string ⟨#[]⟩, .int .i64 0, .string ⟨#[]⟩, .slice none 0 0, .slice none 0 0, .int .i64 0] 72 (0, 0)) := fun w1 K => by
        have hb := (K.block w.heap.size (Nat.lt_trans HS.out.r2 (Nat.lt_trans HS.out.r3 HS.out.rd.lt)) (fun h => h)).trans HS.out.res
        exact ⟨by simp [World.cell?, World.frozen?, hb], hb⟩
      go_wp2_with (first
        | (go_at_call 97; refine hO.mono ?_; rintro e w1 ⟨rfl, K1⟩; obtain ⟨hr1, hb1⟩ := hres w1 K1; have HB : Hid _ := hb1; clear hO hres hb1)
        | fail)
      have hR : ((((((((((w1.setCell ⟨w.heap.size, 0, none⟩ (.string x0)).setCell ⟨w.heap.size, 1, none⟩ (.string x1)).setCell ⟨w.heap.size, 2, none⟩ (.string x2)).setCell ⟨w.heap.size, 3, none⟩ (.string x3)).setCell ⟨w.heap.size, 4, none⟩ (.int .i64 x4)).setCell ⟨w.heap.size, 5, none⟩ (.string x5)).setCell ⟨w.heap.size, 6, none⟩ (.slice an nn cn)).setCell ⟨w.heap.size, 7, none⟩ (.slice ag ng cg)).setCell ⟨w.heap.size, 8, none⟩ (.int .i64 x8))).heap[w.heap.size]? = some (.cells #[.string x0, .string x1, .string x2, .string x3, .int .i64 x4, .string x5, .slice an nn cn, .slice ag ng cg, .int .i64 x8] 72 (0, 0)) := by simp [World.setCell, Array.getElem?_modify, HB.out]
      have g0 := cellOf hR (o := 0) rfl
      have g1 := cellOf hR (o := 1) rfl
      have g2 := cellOf hR (o := 2) rfl
      have g3 := cellOf hR (o := 3) rfl
      have g4 := cellOf hR (o := 4) rfl
      have g5 := cellOf hR (o := 5) rfl
      have g6 := cellOf hR (o := 6) rfl
      have g7 := cellOf hR (o := 7) rfl
      have g8 := cellOf hR (o := 8) rfl
      simp only [Exit.jump]
      refine bodyPost_ret (by simp [results, Try.results42, go_sem, g0, g1, g2, g3, g4, g5, g6, g7, g8]; try rfl) rfl ?_
      rw [HX.out]
      have fin : ∀ e2 s2 v2 n2 us, w'.ownsRow (w.heap.size + 1 + 1 + 1) e2 s2 v2 n2 us → ((((((((((w1.setCell ⟨w.heap.size, 0, none⟩ (.string x0)).setCell ⟨w.heap.size, 1, none⟩ (.string x1)).setCell ⟨w.heap.size, 2, none⟩ (.string x2)).setCell ⟨w.heap.size, 3, none⟩ (.string x3)).setCell ⟨w.heap.size, 4, none⟩ (.int .i64 x4)).setCell ⟨w.heap.size, 5, none⟩ (.string x5)).setCell ⟨w.heap.size, 6, none⟩ (.slice an nn cn)).setCell ⟨w.heap.size, 7, none⟩ (.slice ag ng cg)).setCell ⟨w.heap.size, 8, none⟩ (.int .i64 x8))).ownsRow w.heap.size e2 s2 v2 n2 us := fun e2 s2 v2 n2 us row => by
        have K : Kept (fun k => k = w.heap.size) w' ((((((((((w1.setCell ⟨w.heap.size, 0, none⟩ (.string x0)).setCell ⟨w.heap.size, 1, none⟩ (.string x1)).setCell ⟨w.heap.size, 2, none⟩ (.string x2)).setCell ⟨w.heap.size, 3, none⟩ (.string x3)).setCell ⟨w.heap.size, 4, none⟩ (.int .i64 x4)).setCell ⟨w.heap.size, 5, none⟩ (.string x5)).setCell ⟨w.heap.size, 6, none⟩ (.slice an nn cn)).setCell ⟨w.heap.size, 7, none⟩ (.slice ag ng cg)).setCell ⟨w.heap.size, 8, none⟩ (.int .i64 x8))) := ((((((((((K1.mono (fun _ h => h.elim)).and (Kept.setCell (S := fun k => k = w.heap.size) _ _ _ rfl)).and (Kept.setCell (S := fun k => k = w.heap.size) _ _ _ rfl)).and (Kept.setCell (S := fun k => k = w.heap.size) _ _ _ rfl)).and (Kept.setCell (S := fun k => k = w.heap.size) _ _ _ rfl)).and (Kept.setCell (S := fun k => k = w.heap.size) _ _ _ rfl)).and (Kept.setCell (S := fun k => k = w.heap.size) _ _ _ rfl)).and (Kept.setCell (S := fun k => k = w.heap.size) _ _ _ rfl)).and (Kept.setCell (S := fun k => k = w.heap.size) _ _ _ rfl)).and (Kept.setCell (S := fun k => k = w.heap.size) _ _ _ rfl))
        exact ownsRow_mono (ownsRow_block' row (fun k hk => K.block k (row.lt k hk).2 (fun e => by have := (row.lt k hk).1; have e' : k = w.heap.size := e; omega))) (by omega)
      exact ⟨⟨_, _, rfl, fin _ _ _ _ _ HN.out, fin _ _ _ _ _ HG.out⟩, ((((((((((KS.and K1).trans (Kept.setCell (S := fun k => k = w.heap.size) _ _ _ rfl) (fun k h => .inr (by omega))).trans (Kept.setCell (S := fun k => k = w.heap.size) _ _ _ rfl) (fun k h => .inr (by omega))).trans (Kept.setCell (S := fun k => k = w.heap.size) _ _ _ rfl) (fun k h => .inr (by omega))).trans (Kept.setCell (S := fun k => k = w.heap.size) _ _ _ rfl) (fun k h => .inr (by omega))).trans (Kept.setCell (S := fun k => k = w.heap.size) _ _ _ rfl) (fun k h => .inr (by omega))).trans (Kept.setCell (S := fun k => k = w.heap.size) _ _ _ rfl) (fun k h => .inr (by omega))).trans (Kept.setCell (S := fun k => k = w.heap.size) _ _ _ rfl) (fun k h => .inr (by omega))).trans (Kept.setCell (S := fun k => k = w.heap.size) _ _ _ rfl) (fun k h => .inr (by omega))).trans (Kept.setCell (S := fun k => k = w.heap.size) _ _ _ rfl) (fun k h => .inr (by omega)))⟩
  · intro pass

    cases hd0 : rdText raw 0 with
    | error pl =>
      clear pass
      go_wp2_with (first
        | (go_at_call 90; have _t := S0; refine (rec_text S0 0 _ rfl).mono ?_; intro e w1 h; rw [hd0] at h; obtain ⟨rfl, h⟩ := h; clear S0)
        | fail)
      go_step3
      rcases h with S | ⟨v, S⟩
      · exact ⟨rfl, _, _, _, _, _, _, _, _, _, _, _, _, _, _, _, _, _, _, _, _, _, _, _, _, _, _, _, _, _, _, _, _, _, _, ⟨#[]⟩, ⟨#[]⟩, ⟨#[]⟩, ⟨#[]⟩, 0, ⟨#[]⟩, none, 0, 0, none, 0, 0, 0, pl, true, rfl, S, fun _ => st_err0 hd0, fun h => by cases h⟩
      · exact ⟨rfl, _, _, _, _, _, _, _, _, _, _, _, _, _, _, _, _, _, _, _, _, _, _, _, _, _, _, _, _, _, _, _, _, _, _, v, ⟨#[]⟩, ⟨#[]⟩, ⟨#[]⟩, 0, ⟨#[]⟩, none, 0, 0, none, 0, 0, 0, pl, true, rfl, S, fun _ => st_err0 hd0, fun h => by cases h⟩
    | ok y0 =>
      obtain ⟨x0, i0⟩ := y0
      cases hd1 : rdText raw i0 with
      | error pl =>
        clear pass
        go_wp2_with (first
          | (go_at_call 90; have _t := S0; refine (rec_text S0 0 _ rfl).mono ?_; intro e w1 h; rw [hd0] at h; obtain ⟨rfl, S1⟩ := h; clear S0)
          | (go_at_call 90; have _t := S1; refine (rec_text S1 1 _ rfl).mono ?_; intro e w2 h; rw [hd1] at h; obtain ⟨rfl, h⟩ := h; clear S1)
          | fail)
        go_step3
        rcases h with S | ⟨v, S⟩
        · exact ⟨rfl, _, _, _, _, _, _, _, _, _, _, _, _, _, _, _, _, _, _, _, _, _, _, _, _, _, _, _, _, _, _, _, _, _, _, x0, ⟨#[]⟩, ⟨#[]⟩, ⟨#[]⟩, 0, ⟨#[]⟩, none, 0, 0, none, 0, 0, 0, pl, true, rfl, S, fun _ => st_err1 hd0 hd1, fun h => by cases h⟩
        · exact ⟨rfl, _, _, _, _, _, _, _, _, _, _, _, _, _, _, _, _, _, _, _, _, _, _, _, _, _, _, _, _, _, _, _, _, _, _, x0, v, ⟨#[]⟩, ⟨#[]⟩, 0, ⟨#[]⟩, none, 0, 0, none, 0, 0, 0, pl, true, rfl, S, fun _ => st_err1 hd0 hd1, fun h => by cases h⟩
      | ok y1 =>
        obtain ⟨x1, i1⟩ := y1
        cases hd2 : rdText raw i1 with
        | error pl =>
          clear pass
          go_wp2_with (first
            | (go_at_call 90; have _t := S0; refine (rec_text S0 0 _ rfl).mono ?_; intro e w1 h; rw [hd0] at h; obtain ⟨rfl, S1⟩ := h; clear S0)
            | (go_at_call 90; have _t := S1; refine (rec_text S1 1 _ rfl).mono ?_; intro e w2 h; rw [hd1] at h; obtain ⟨rfl, S2⟩ := h; clear S1)
            | (go_at_call 90; have _t := S2; refine (rec_text S2 2 _ rfl).mono ?_; intro e w3 h; rw [hd2] at h; obtain ⟨rfl, h⟩ := h; clear S2)
            | fail)
          go_step3
          rcases h with S | ⟨v, S⟩
          · exact ⟨rfl, _, _, _, _, _, _, _, _, _, _, _, _, _, _, _, _, _, _, _, _, _, _, _, _, _, _, _, _, _, _, _, _, _, _, x0, x1, ⟨#[]⟩, ⟨#[]⟩, 0, ⟨#[]⟩, none, 0, 0, none, 0, 0, 0, pl, true, rfl, S, fun _ => st_err2 hd0 hd1 hd2, fun h => by cases h⟩
          · exact ⟨rfl, _, _, _, _, _, _, _, _, _, _, _, _, _, _, _, _, _, _, _, _, _, _, _, _, _, _, _, _, _, _, _, _, _, _, x0, x1, v, ⟨#[]⟩, 0, ⟨#[]⟩, none, 0, 0, none, 0, 0, 0, pl, true, rfl, S, fun _ => st_err2 hd0 hd1 hd2, fun h => by cases h⟩
        | ok y2 =>
          obtain ⟨x2, i2⟩ := y2
          cases hd3 : rdText raw i2 with
          | error pl =>
            clear pass
            go_wp2_with (first
              | (go_at_call 90; have _t := S0; refine (rec_text S0 0 _ rfl).mono ?_; intro e w1 h; rw [hd0] at h; obtain ⟨rfl, S1⟩ := h; clear S0)
              | (go_at_call 90; have _t := S1; refine (rec_text S1 1 _ rfl).mono ?_; intro e w2 h; rw [hd1] at h; obtain ⟨rfl, S2⟩ := h; clear S1)
              | (go_at_call 90; have _t := S2; refine (rec_text S2 2 _ rfl).mono ?_; intro e w3 h; rw [hd2] at h; obtain ⟨rfl, S3⟩ := h; clear S2)
              | (go_at_call 90; have _t := S3; refine (rec_text S3 3 _ rfl).mono ?_; intro e w4 h; rw [hd3] at h; obtain ⟨rfl, h⟩ := h; clear S3)
              | fail)
            go_step3
            rcases h with S | ⟨v, S⟩
            · exact ⟨rfl, _, _, _, _, _, _, _, _, _, _, _, _, _, _, _, _, _, _, _, _, _, _, _, _, _, _, _, _, _, _, _, _, _, _, x0, x1, x2, ⟨#[]⟩, 0, ⟨#[]⟩, none, 0, 0, none, 0, 0, 0, pl, true, rfl, S, fun _ => st_err3 hd0 hd1 hd2 hd3, fun h => by cases h⟩
            · exact ⟨rfl, _, _, _, _, _, _, _, _, _, _, _, _, _, _, _, _, _, _, _, _, _, _, _, _, _, _, _, _, _, _, _, _, _, _, x0, x1, x2, v, 0, ⟨#[]⟩, none, 0, 0, none, 0, 0, 0, pl, true, rfl, S, fun _ => st_err3 hd0 hd1 hd2 hd3, fun h => by cases h⟩
          | ok y3 =>
            obtain ⟨x3, i3⟩ := y3
            cases hd4 : rdNum 0 4 raw i3 with
            | error pl =>
              clear pass
              go_wp2_with (first
                | (go_at_call 90; have _t := S0; refine (rec_text S0 0 _ rfl).mono ?_; intro e w1 h; rw [hd0] at h; obtain ⟨rfl, S1⟩ := h; clear S0)
                | (go_at_call 90; have _t := S1; refine (rec_text S1 1 _ rfl).mono ?_; intro e w2 h; rw [hd1] at h; obtain ⟨rfl, S2⟩ := h; clear S1)
                | (go_at_call 90; have _t := S2; refine (rec_text S2 2 _ rfl).mono ?_; intro e w3 h; rw [hd2] at h; obtain ⟨rfl, S3⟩ := h; clear S2)
                | (go_at_call 90; have _t := S3; refine (rec_text S3 3 _ rfl).mono ?_; intro e w4 h; rw [hd3] at h; obtain ⟨rfl, S4⟩ := h; clear S3)
                | (go_at_call 91; have _t := S4; refine (rec_num S4 4 _ rfl 0 4).mono ?_; intro e w5 h; rw [hd4] at h; obtain ⟨rfl, h⟩ := h; clear S4)
                | fail)
              go_step3
              rcases h with S | ⟨v, S⟩
              · exact ⟨rfl, _, _, _, _, _, _, _, _, _, _, _, _, _, _, _, _, _, _, _, _, _, _, _, _, _, _, _, _, _, _, _, _, _, _, x0, x1, x2, x3, 0, ⟨#[]⟩, none, 0, 0, none, 0, 0, 0, pl, true, rfl, S, fun _ => st_err4 hd0 hd1 hd2 hd3 hd4, fun h => by cases h⟩
              · exact ⟨rfl, _, _, _, _, _, _, _, _, _, _, _, _, _, _, _, _, _, _, _, _, _, _, _, _, _, _, _, _, _, _, _, _, _, _, x0, x1, x2, x3, v, ⟨#[]⟩, none, 0, 0, none, 0, 0, 0, pl, true, rfl, S, fun _ => st_err4 hd0 hd1 hd2 hd3 hd4, fun h => by cases h⟩
            | ok y4 =>
              obtain ⟨x4, i4⟩ := y4
              cases hd5 : rdText raw i4 with
              | error pl =>
                clear pass
                go_wp2_with (first
                  | (go_at_call 90; have _t := S0; refine (rec_text S0 0 _ rfl).mono ?_; intro e w1 h; rw [hd0] at h; obtain ⟨rfl, S1⟩ := h; clear S0)
                  | (go_at_call 90; have _t := S1; refine (rec_text S1 1 _ rfl).mono ?_; intro e w2 h; rw [hd1] at h; obtain ⟨rfl, S2⟩ := h; clear S1)
                  | (go_at_call 90; have _t := S2; refine (rec_text S2 2 _ rfl).mono ?_; intro e w3 h; rw [hd2] at h; obtain ⟨rfl, S3⟩ := h; clear S2)
                  | (go_at_call 90; have _t := S3; refine (rec_text S3 3 _ rfl).mono ?_; intro e w4 h; rw [hd3] at h; obtain ⟨rfl, S4⟩ := h; clear S3)
                  | (go_at_call 91; have _t := S4; refine (rec_num S4 4 _ rfl 0 4).mono ?_; intro e w5 h; rw [hd4] at h; obtain ⟨rfl, S5⟩ := h; clear S4)
                  | (go_at_call 90; have _t := S5; refine (rec_text S5 5 _ rfl).mono ?_; intro e w6 h; rw [hd5] at h; obtain ⟨rfl, h⟩ := h; clear S5)
                  | fail)
                go_step3
                rcases h with S | ⟨v, S⟩
                · exact ⟨rfl, _, _, _, _, _, _, _, _, _, _, _, _, _, _, _, _, _, _, _, _, _, _, _, _, _, _, _, _, _, _, _, _, _, _, x0, x1, x2, x3, x4, ⟨#[]⟩, none, 0, 0, none, 0, 0, 0, pl, true, rfl, S, fun _ => st_err5 hd0 hd1 hd2 hd3 hd4 hd5, fun h => by cases h⟩
                · exact ⟨rfl, _, _, _, _, _, _, _, _, _, _, _, _, _, _, _, _, _, _, _, _, _, _, _, _, _, _, _, _, _, _, _, _, _, _, x0, x1, x2, x3, x4, v, none, 0, 0, none, 0, 0, 0, pl, true, rfl, S, fun _ => st_err5 hd0 hd1 hd2 hd3 hd4 hd5, fun h => by cases h⟩
              | ok y5 =>
                obtain ⟨x5, i5⟩ := y5
                cases hd6 : rdLst rdNode raw i5 with
                | error pl =>
                  clear pass
                  go_wp2_with (first
                    | (go_at_call 90; have _t := S0; refine (rec_text S0 0 _ rfl).mono ?_; intro e w1 h; rw [hd0] at h; obtain ⟨rfl, S1⟩ := h; clear S0)
                    | (go_at_call 90; have _t := S1; refine (rec_text S1 1 _ rfl).mono ?_; intro e w2 h; rw [hd1] at h; obtain ⟨rfl, S2⟩ := h; clear S1)
                    | (go_at_call 90; have _t := S2; refine (rec_text S2 2 _ rfl).mono ?_; intro e w3 h; rw [hd2] at h; obtain ⟨rfl, S3⟩ := h; clear S2)
                    | (go_at_call 90; have _t := S3; refine (rec_text S3 3 _ rfl).mono ?_; intro e w4 h; rw [hd3] at h; obtain ⟨rfl, S4⟩ := h; clear S3)
                    | (go_at_call 91; have _t := S4; refine (rec_num S4 4 _ rfl 0 4).mono ?_; intro e w5 h; rw [hd4] at h; obtain ⟨rfl, S5⟩ := h; clear S4)
                    | (go_at_call 90; have _t := S5; refine (rec_text S5 5 _ rfl).mono ?_; intro e w6 h; rw [hd5] at h; obtain ⟨rfl, S6⟩ := h; clear S5)
                    | (go_at_call 92; have _t := S6; refine (st_nodes S6 6 rfl hm).mono ?_; intro e w7 h; rw [hd6] at h; obtain ⟨rfl, an, nn, cn, S⟩ := h; clear S6)
                    | fail)
                  go_step3
                  exact ⟨rfl, _, _, _, _, _, _, _, _, _, _, _, _, _, _, _, _, _, _, _, _, _, _, _, _, _, _, _, _, _, _, _, _, _, _, x0, x1, x2, x3, x4, x5, an, nn, cn, none, 0, 0, 0, pl, true, rfl, S, fun _ => st_err6 hd0 hd1 hd2 hd3 hd4 hd5 hd6, fun h => by cases h⟩
                | ok y6 =>
                  obtain ⟨⟨kn, ns⟩, i6⟩ := y6
                  cases hd7 : rdLst rdSignal raw i6 with
                  | error pl =>
                    clear pass
                    go_wp2_with (first
                      | (go_at_call 90; have _t := S0; refine (rec_text S0 0 _ rfl).mono ?_; intro e w1 h; rw [hd0] at h; obtain ⟨rfl, S1⟩ := h; clear S0)
                      | (go_at_call 90; have _t := S1; refine (rec_text S1 1 _ rfl).mono ?_; intro e w2 h; rw [hd1] at h; obtain ⟨rfl, S2⟩ := h; clear S1)
                      | (go_at_call 90; have _t := S2; refine (rec_text S2 2 _ rfl).mono ?_; intro e w3 h; rw [hd2] at h; obtain ⟨rfl, S3⟩ := h; clear S2)
                      | (go_at_call 90; have _t := S3; refine (rec_text S3 3 _ rfl).mono ?_; intro e w4 h; rw [hd3] at h; obtain ⟨rfl, S4⟩ := h; clear S3)
                      | (go_at_call 91; have _t := S4; refine (rec_num S4 4 _ rfl 0 4).mono ?_; intro e w5 h; rw [hd4] at h; obtain ⟨rfl, S5⟩ := h; clear S4)
                      | (go_at_call 90; have _t := S5; refine (rec_text S5 5 _ rfl).mono ?_; intro e w6 h; rw [hd5] at h; obtain ⟨rfl, S6⟩ := h; clear S5)
                      | (go_at_call 92; have _t := S6; refine (st_nodes S6 6 rfl hm).mono ?_; intro e w7 h; rw [hd6] at h; obtain ⟨rfl, an, cn, Q7, rn, _⟩ := h; have S7 : RecSt w w7 72 w.heap.size (w.heap.size + 1) (w.heap.size + 1 + 1) a m c raw i6 false #[.string ⟨#[]⟩, .string ⟨#[]⟩, .string ⟨#[]⟩, .string ⟨#[]⟩, .int .i64 0, .string ⟨#[]⟩, .slice none 0 0, .slice none 0 0, .int .i64 0] #[.string x0, .string x1, .string x2, .string x3, .int .i64 x4, .string x5, .slice an ns.length cn, .slice none 0 0, .int .i64 0] := Q7; have Hn : Hid _ := rn; clear S6 Q7 rn)
                      | (go_at_call 94; have _t := S7; refine (st_signals S7 7 rfl hm).mono ?_; intro e w8 h; rw [hd7] at h; obtain ⟨rfl, ag, ng, cg, S⟩ := h; clear S7)
                      | fail)
                    go_step3
                    exact ⟨rfl, _, _, _, _, _, _, _, _, _, _, _, _, _, _, _, _, _, _, _, _, _, _, _, _, _, _, _, _, _, _, _, _, _, _, x0, x1, x2, x3, x4, x5, an, ns.length, cn, ag, ng, cg, 0, pl, true, rfl, S, fun _ => st_err7 hd0 hd1 hd2 hd3 hd4 hd5 hd6 hd7, fun h => by cases h⟩
                  | ok y7 =>
                    obtain ⟨⟨kg, gs⟩, i7⟩ := y7
                    cases hd8 : rdNum 0 4503599627370496 raw i7 with
                    | error pl =>
                      clear pass
                      go_wp2_with (first
                        | (go_at_call 90; have _t := S0; refine (rec_text S0 0 _ rfl).mono ?_; intro e w1 h; rw [hd0] at h; obtain ⟨rfl, S1⟩ := h; clear S0)
                        | (go_at_call 90; have _t := S1; refine (rec_text S1 1 _ rfl).mono ?_; intro e w2 h; rw [hd1] at h; obtain ⟨rfl, S2⟩ := h; clear S1)
                        | (go_at_call 90; have _t := S2; refine (rec_text S2 2 _ rfl).mono ?_; intro e w3 h; rw [hd2] at h; obtain ⟨rfl, S3⟩ := h; clear S2)
                        | (go_at_call 90; have _t := S3; refine (rec_text S3 3 _ rfl).mono ?_; intro e w4 h; rw [hd3] at h; obtain ⟨rfl, S4⟩ := h; clear S3)
                        | (go_at_call 91; have _t := S4; refine (rec_num S4 4 _ rfl 0 4).mono ?_; intro e w5 h; rw [hd4] at h; obtain ⟨rfl, S5⟩ := h; clear S4)
                        | (go_at_call 90; have _t := S5; refine (rec_text S5 5 _ rfl).mono ?_; intro e w6 h; rw [hd5] at h; obtain ⟨rfl, S6⟩ := h; clear S5)
                        | (go_at_call 92; have _t := S6; refine (st_nodes S6 6 rfl hm).mono ?_; intro e w7 h; rw [hd6] at h; obtain ⟨rfl, an, cn, Q7, rn, _⟩ := h; have S7 : RecSt w w7 72 w.heap.size (w.heap.size + 1) (w.heap.size + 1 + 1) a m c raw i6 false #[.string ⟨#[]⟩, .string ⟨#[]⟩, .string ⟨#[]⟩, .string ⟨#[]⟩, .int .i64 0, .string ⟨#[]⟩, .slice none 0 0, .slice none 0 0, .int .i64 0] #[.string x0, .string x1, .string x2, .string x3, .int .i64 x4, .string x5, .slice an ns.length cn, .slice none 0 0, .int .i64 0] := Q7; have Hn : Hid _ := rn; clear S6 Q7 rn)
                        | (go_at_call 94; have _t := S7; refine (st_signals S7 7 rfl hm).mono ?_; intro e w8 h; rw [hd7] at h; obtain ⟨rfl, ag, cg, Q8, rg, kp8⟩ := h; have S8 : RecSt w w8 72 w.heap.size (w.heap.size + 1) (w.heap.size + 1 + 1) a m c raw i7 false #[.string ⟨#[]⟩, .string ⟨#[]⟩, .string ⟨#[]⟩, .string ⟨#[]⟩, .int .i64 0, .string ⟨#[]⟩, .slice none 0 0, .slice none 0 0, .int .i64 0] #[.string x0, .string x1, .string x2, .string x3, .int .i64 x4, .string x5, .slice an ns.length cn, .slice ag gs.length cg, .int .i64 0] := Q8; have Hn8 : Hid _ := kp8 _ _ _ _ _ Hn.out; have Hg8 : Hid _ := rg; clear S7 Q8 rg kp8)
                        | (go_at_call 91; have _t := S8; refine (st_num S8 8 _ rfl 0 4503599627370496).mono ?_; rintro e w9 ⟨h, kp9⟩; rw [hd8] at h; obtain ⟨rfl, h⟩ := h; clear S8)
                        | fail)
                      go_step3
                      rcases h with S | ⟨v, S⟩
                      · exact ⟨rfl, _, _, _, _, _, _, _, _, _, _, _, _, _, _, _, _, _, _, _, _, _, _, _, _, _, _, _, _, _, _, _, _, _, _, x0, x1, x2, x3, x4, x5, an, ns.length, cn, ag, gs.length, cg, 0, pl, true, rfl, S, fun _ => st_err8 hd0 hd1 hd2 hd3 hd4 hd5 hd6 hd7 hd8, fun h => by cases h⟩
                      · exact ⟨rfl, _, _, _, _, _, _, _, _, _, _, _, _, _, _, _, _, _, _, _, _, _, _, _, _, _, _, _, _, _, _, _, _, _, _, x0, x1, x2, x3, x4, x5, an, ns.length, cn, ag, gs.length, cg, v, pl, true, rfl, S, fun _ => st_err8 hd0 hd1 hd2 hd3 hd4 hd5 hd6 hd7 hd8, fun h => by cases h⟩
                    | ok y8 =>
                      obtain ⟨x8, i8⟩ := y8
                      go_wp2_with (first
                        | (go_at_call 90; have _t := S0; refine (rec_text S0 0 _ rfl).mono ?_; intro e w1 h; rw [hd0] at h; obtain ⟨rfl, S1⟩ := h; clear S0)
                        | (go_at_call 90; have _t := S1; refine (rec_text S1 1 _ rfl).mono ?_; intro e w2 h; rw [hd1] at h; obtain ⟨rfl, S2⟩ := h; clear S1)
                        | (go_at_call 90; have _t := S2; refine (rec_text S2 2 _ rfl).mono ?_; intro e w3 h; rw [hd2] at h; obtain ⟨rfl, S3⟩ := h; clear S2)
                        | (go_at_call 90; have _t := S3; refine (rec_text S3 3 _ rfl).mono ?_; intro e w4 h; rw [hd3] at h; obtain ⟨rfl, S4⟩ := h; clear S3)
                        | (go_at_call 91; have _t := S4; refine (rec_num S4 4 _ rfl 0 4).mono ?_; intro e w5 h; rw [hd4] at h; obtain ⟨rfl, S5⟩ := h; clear S4)
                        | (go_at_call 90; have _t := S5; refine (rec_text S5 5 _ rfl).mono ?_; intro e w6 h; rw [hd5] at h; obtain ⟨rfl, S6⟩ := h; clear S5)
                        | (go_at_call 92; have _t := S6; refine (st_nodes S6 6 rfl hm).mono ?_; intro e w7 h; rw [hd6] at h; obtain ⟨rfl, an, cn, Q7, rn, _⟩ := h; have S7 : RecSt w w7 72 w.heap.size (w.heap.size + 1) (w.heap.size + 1 + 1) a m c raw i6 false #[.string ⟨#[]⟩, .string ⟨#[]⟩, .string ⟨#[]⟩, .string ⟨#[]⟩, .int .i64 0, .string ⟨#[]⟩, .slice none 0 0, .slice none 0 0, .int .i64 0] #[.string x0, .string x1, .string x2, .string x3, .int .i64 x4, .string x5, .slice an ns.length cn, .slice none 0 0, .int .i64 0] := Q7; have Hn : Hid _ := rn; clear S6 Q7 rn)
                        | (go_at_call 94; have _t := S7; refine (st_signals S7 7 rfl hm).mono ?_; intro e w8 h; rw [hd7] at h; obtain ⟨rfl, ag, cg, Q8, rg, kp8⟩ := h; have S8 : RecSt w w8 72 w.heap.size (w.heap.size + 1) (w.heap.size + 1 + 1) a m c raw i7 false #[.string ⟨#[]⟩, .string ⟨#[]⟩, .string ⟨#[]⟩, .string ⟨#[]⟩, .int .i64 0, .string ⟨#[]⟩, .slice none 0 0, .slice none 0 0, .int .i64 0] #[.string x0, .string x1, .string x2, .string x3, .int .i64 x4, .string x5, .slice an ns.length cn, .slice ag gs.length cg, .int .i64 0] := Q8; have Hn8 : Hid _ := kp8 _ _ _ _ _ Hn.out; have Hg8 : Hid _ := rg; clear S7 Q8 rg kp8)
                        | (go_at_call 91; have _t := S8; refine (st_num S8 8 _ rfl 0 4503599627370496).mono ?_; rintro e w9 ⟨h, kp9⟩; rw [hd8] at h; obtain ⟨rfl, S9⟩ := h; have Hn9 : Hid _ := kp9 _ _ _ _ _ Hn8.out; have Hg9 : Hid _ := kp9 _ _ _ _ _ Hg8.out; clear S8 kp9)
                        | (go_at_call 96; refine (st_close S9).mono ?_; rintro e w10 ⟨rfl, SE, kp10⟩; have HnE : Hid _ := kp10 _ _ _ _ _ Hn9.out; have HgE : Hid _ := kp10 _ _ _ _ _ Hg9.out; clear S9 kp10)
                        | fail)
                      go_step3
                      refine (‹∀ (a : Act) (w : World), Code.wp _ _ _ a w → _›) _ _ ?_
                      have hw := st_ok hd0 hd1 hd2 hd3 hd4 hd5 hd6 hd7 hd8
                      rw [hlen] at hw
                      refine pass _ _ ⟨_, _, _, _, _, _, _, _, _, _, _, _, _, _, _, _, _, _, _, _, _, _, _, _, _, _, _, _, _, _, _, _, _, _, x0, x1, x2, x3, x4, x5, an, ns.length, cn, ag, gs.length, cg, x8, i8, _, rfl, SE, ?_, ?_⟩
                      · intro h
                        rw [Bool.false_or] at h
                        rw [hw, if_pos h]
                      · intro h
                        rw [Bool.false_or] at h
                        refine ⟨kn, ns, kg, gs, ?_, HnE.out, HgE.out⟩
                        rw [hw, if_neg (by rw [h]; decide)]

end Go.Proofs.Ytceocmhgbcimoaa
