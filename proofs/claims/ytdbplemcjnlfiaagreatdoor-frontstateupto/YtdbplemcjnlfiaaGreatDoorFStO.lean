/-
  A definition and a state by value, opened, with their bulk; a row's start under the second form, with the tables and the world's shape.
-/
import Derived.Test.YtdbplemcjnlfiaaGreatDoorFStD
import Derived.Test.YtdbplemcjnlfiaaGreatDoorFCard
import Derived.JoinedCond
import Derived.Deep.Slices
namespace Go.Proofs.YtdbplemcjnlfiaaGreatDoor
open Go.ChangeShapes Go.WideShapes Go.ChangeAt Go.RowKit

theorem bulk_pos {H : Type} (d : DataW H) : 1 ≤ Rows.uptoBulk d := by
  cases d with
  | lit l => cases l <;> simp [Rows.uptoBulk]
  | _ => simp [Rows.uptoBulk]

theorem bulk_in {H : Type} : ∀ {l : List (DataW H)} {d : DataW H}, d ∈ l → Rows.uptoBulk d ≤ Rows.uptoBulkAll l
  | x :: r, d, hm => by
    simp only [Rows.uptoBulkAll]
    rcases List.mem_cons.1 hm with h | h
    · subst h; omega
    · have := bulk_in h; omega

theorem bulk_len {H : Type} : ∀ (l : List (DataW H)), l.length ≤ Rows.uptoBulkAll l
  | [] => Nat.zero_le _
  | x :: r => by
    simp only [Rows.uptoBulkAll, List.length_cons]
    have h1 := bulk_pos x
    have h2 := bulk_len r
    omega

theorem str_bulk {H : Type} (s : ByteArray) : Rows.uptoBulk (.lit (.string s.data.toList) : DataW H) = s.size + 1 := by
  have e : s.data.toList.length = s.size := Array.length_toList
  simp [Rows.uptoBulk, e]

set_option maxRecDepth 100000 in
theorem open_nd {H : Type} {enc : TypeId × Value → H} {W : World} {base : Nat} {spare : TypeId → Bool} {held : Bool} {fuel : Nat} {cs : List Value} {x : DataW H × List MemPlace} (h : DataW.trod enc Tryz.prog W base spare held fuel 67 cs = some x) (hl : cs.length = 3) :
    ∃ (s t : Int) (tx : ByteArray), cs = [.int .i64 s, .int .i64 t, .string tx] ∧ tx.size ≤ Rows.uptoBulk x.1 ∧ -9223372036854775808 ≤ t ∧ t ≤ 9223372036854775807 := by
  match cs, hl with
  | [c0, c1, c2], _ =>
    have kS : Tryz.prog.cellsOf 9 = 1 := by kernel_rfl
    have kI : Tryz.prog.cellsOf 3 = 1 := by kernel_rfl
    obtain ⟨ys, n, _, rfl, hl, hlen, hf⟩ := DataW.trod_struct Tryz.underlying67 h
    match ys, hlen with
    | [z0, z1, z2], _ =>
      have t0 : DataW.trod enc Tryz.prog W base spare held n 3 [c0] = some z0 := by simpa [kI] using hf 0 _ rfl
      have t1 : DataW.trod enc Tryz.prog W base spare held n 3 [c1] = some z1 := by simpa [kI] using hf 1 _ rfl
      have t2 : DataW.trod enc Tryz.prog W base spare held n 9 [c2] = some z2 := by simpa [kS] using hf 2 _ rfl
      obtain ⟨x0, e0, rfl, _⟩ := DataW.trod_int Tryz.underlying3 t0
      obtain ⟨x1, e1, rfl, wf⟩ := DataW.trod_int Tryz.underlying3 t1
      obtain ⟨x2, e2, rfl, _⟩ := DataW.trod_string Tryz.underlying9 t2
      simp only [List.cons.injEq, and_true] at e0 e1 e2
      subst e0 e1 e2
      have e2 : x2.data.toList.length = x2.size := Array.length_toList
      refine ⟨x0, x1, x2, rfl, ?_, ?_⟩
      · simp only [List.map_cons, List.map_nil, Rows.uptoBulk, Rows.uptoBulkAll, e2]
        omega
      · simp only [Lit.wf, Bool.and_eq_true, decide_eq_true_eq] at wf
        exact ⟨wf.1, wf.2⟩

set_option maxRecDepth 100000 in
theorem open_nm {H : Type} {enc : TypeId × Value → H} {W : World} {base : Nat} {spare : TypeId → Bool} {held : Bool} {fuel : Nat} {cs : List Value} {x : DataW H × List MemPlace} (h : DataW.trod enc Tryz.prog W base spare held fuel 71 cs = some x) (hl : cs.length = 7) :
    ∃ (nm : ByteArray), cs[0]? = some (.string nm) ∧ nm.size ≤ Rows.uptoBulk x.1 := by
  match cs, hl with
  | [c0, c1, c2, c3, c4, c5, c6], _ =>
    have kS : Tryz.prog.cellsOf 9 = 1 := by kernel_rfl
    obtain ⟨ys, n, _, rfl, hl, hlen, hf⟩ := DataW.trod_struct Tryz.underlying71 h
    match ys, hlen with
    | z0 :: r, _ =>
      have t0 : DataW.trod enc Tryz.prog W base spare held n 9 [c0] = some z0 := by simpa [kS] using hf 0 _ rfl
      obtain ⟨x0, e0, rfl, _⟩ := DataW.trod_string Tryz.underlying9 t0
      simp only [List.cons.injEq, and_true] at e0
      subst e0
      refine ⟨x0, rfl, ?_⟩
      have h1 := bulk_in (H := H) (l := (((.lit (.string x0.data.toList), []) :: r : List (DataW H × List MemPlace)).map (·.1))) (d := .lit (.string x0.data.toList)) (by simp)
      rw [str_bulk] at h1
      simp only [Rows.uptoBulk]
      omega

set_option maxRecDepth 100000 in
theorem open_nds {H : Type} {enc : TypeId × Value → H} {W : World} {base : Nat} {spare : TypeId → Bool} {held : Bool} {fuel : Nat} {v : Value} {x : DataW H × List MemPlace} (hf : DataW.trod enc Tryz.prog W base spare held fuel 39 [v] = some x) (hb : Rows.uptoBulk x.1 ≤ 1048576) :
    ∃ a len cap St Tr Tx, v = .slice a len cap ∧ len ≤ cap ∧ len ≤ 1048576 ∧ NdsIn W a len St Tr Tx := by
  have kO : Tryz.prog.cellsOf 67 = 3 := by kernel_rfl
  rcases Deep.open_slice Tryz.underlying39 hf with ⟨hcs, hx⟩ | ⟨a, len, cap, m, n, D, Pl, hcs, _, hl, hm, hmm, hx, hel⟩
  · simp only [List.cons.injEq, and_true] at hcs
    subst hcs
    exact ⟨none, 0, 0, fun _ => 0, fun _ => 0, fun _ => ⟨#[]⟩, rfl, Nat.le_refl _, Nat.zero_le _, .inl rfl⟩
  · simp only [List.cons.injEq, and_true] at hcs
    subst hcs
    have hlm : len ≤ m := by rw [hmm]; split <;> omega
    have hbb : Rows.uptoBulkAll ((List.range len).map D) ≤ 1048576 := by
      rw [hx] at hb
      simp only [Rows.uptoBulk] at hb
      omega
    have each : ∀ i, i < len → ∃ o : Int × Int × ByteArray, (W.cell? (a.add (i * 3)) = some (.int .i64 o.1) ∧ W.cell? (a.add (i * 3 + 1)) = some (.int .i64 o.2.1) ∧ W.cell? (a.add (i * 3 + 2)) = some (.string o.2.2)) ∧ o.2.2.size ≤ 1048576 ∧ -9223372036854775808 ≤ o.2.1 ∧ o.2.1 ≤ 9223372036854775807 := by
      intro i hi
      obtain ⟨cs', h1, h2⟩ := hel i (by omega)
      rw [kO] at h1
      obtain ⟨_, hlen, hcell⟩ := World.cells?_some h1
      obtain ⟨s, t, tx, rfl, z1, z2⟩ := open_nd h2 hlen
      have z3 : tx.size ≤ Rows.uptoBulk (D i) := z1
      have h3 := bulk_in (l := (List.range len).map D) (List.mem_map.2 ⟨i, List.mem_range.2 hi, rfl⟩)
      have c0 := hcell 0 (by decide)
      have c1 := hcell 1 (by decide)
      have c2 := hcell 2 (by decide)
      rw [Deep.add_add] at c0 c1 c2
      exact ⟨(s, t, tx), ⟨c0, c1, c2⟩, by show tx.size ≤ _; omega, z2⟩
    haveI : Inhabited (Int × Int × ByteArray) := ⟨(0, 0, ⟨#[]⟩)⟩
    obtain ⟨q, hq⟩ := Deep.choose_lt each
    refine ⟨some a, len, cap, fun i => (q i).1, fun i => (q i).2.1, fun i => (q i).2.2, rfl, hl, ?_, ?_⟩
    · have := bulk_len ((List.range len).map D)
      rw [List.length_map, List.length_range] at this
      omega
    · rcases Nat.eq_zero_or_pos len with h0 | h0
      · exact .inl h0
      · obtain ⟨b, o, rfl⟩ := addr_form (hq 0 h0).1.1
        refine .inr ⟨b, o, rfl, fun i hi => ?_⟩
        obtain ⟨⟨e1, e2, e3⟩, e4⟩ := hq i hi
        rw [Addr.add_lit] at e1 e2 e3
        rw [← Nat.add_assoc] at e2 e3
        exact ⟨⟨e1, e2, e3⟩, e4⟩

set_option maxRecDepth 100000 in
theorem open_nms {H : Type} {enc : TypeId × Value → H} {W : World} {base : Nat} {spare : TypeId → Bool} {held : Bool} {fuel : Nat} {v : Value} {x : DataW H × List MemPlace} (hf : DataW.trod enc Tryz.prog W base spare held fuel 36 [v] = some x) (hb : Rows.uptoBulk x.1 ≤ 1048576) :
    ∃ a len cap Nm, v = .slice a len cap ∧ len ≤ cap ∧ len ≤ 1048576 ∧ NmsIn W a len Nm := by
  have kO : Tryz.prog.cellsOf 71 = 7 := by kernel_rfl
  rcases Deep.open_slice Tryz.underlying36 hf with ⟨hcs, hx⟩ | ⟨a, len, cap, m, n, D, Pl, hcs, _, hl, hm, hmm, hx, hel⟩
  · simp only [List.cons.injEq, and_true] at hcs
    subst hcs
    exact ⟨none, 0, 0, fun _ => ⟨#[]⟩, rfl, Nat.le_refl _, Nat.zero_le _, .inl rfl⟩
  · simp only [List.cons.injEq, and_true] at hcs
    subst hcs
    have hlm : len ≤ m := by rw [hmm]; split <;> omega
    have hbb : Rows.uptoBulkAll ((List.range len).map D) ≤ 1048576 := by
      rw [hx] at hb
      simp only [Rows.uptoBulk] at hb
      omega
    have each : ∀ i, i < len → ∃ o : ByteArray, W.cell? (a.add (i * 7)) = some (.string o) ∧ o.size ≤ 1048576 := by
      intro i hi
      obtain ⟨cs', h1, h2⟩ := hel i (by omega)
      rw [kO] at h1
      obtain ⟨_, hlen, hcell⟩ := World.cells?_some h1
      obtain ⟨nm, e0, z1⟩ := open_nm h2 hlen
      have z3 : nm.size ≤ Rows.uptoBulk (D i) := z1
      have h3 := bulk_in (l := (List.range len).map D) (List.mem_map.2 ⟨i, List.mem_range.2 hi, rfl⟩)
      have c0 := hcell 0 (by decide)
      rw [Deep.add_add, e0] at c0
      exact ⟨nm, c0, by omega⟩
    haveI : Inhabited ByteArray := ⟨⟨#[]⟩⟩
    obtain ⟨q, hq⟩ := Deep.choose_lt each
    refine ⟨some a, len, cap, q, rfl, hl, ?_, ?_⟩
    · have := bulk_len ((List.range len).map D)
      rw [List.length_map, List.length_range] at this
      omega
    · rcases Nat.eq_zero_or_pos len with h0 | h0
      · exact .inl h0
      · obtain ⟨b, o, rfl⟩ := addr_form (hq 0 h0).1
        refine .inr ⟨b, o, rfl, fun i hi => ?_⟩
        obtain ⟨e1, e2⟩ := hq i hi
        rw [Addr.add_lit] at e1
        exact ⟨e1, e2⟩

theorem array2 {α : Type} {cs : Array α} (h : cs.size = 2) : ∃ c0 c1, cs = #[c0, c1] := by
  obtain ⟨l⟩ := cs
  match l, h with
  | [c0, c1], _ => exact ⟨c0, c1, rfl⟩

theorem array9 {α : Type} {cs : Array α} (h : cs.size = 9) : ∃ c0 c1 c2 c3 c4 c5 c6 c7 c8, cs = #[c0, c1, c2, c3, c4, c5, c6, c7, c8] := by
  obtain ⟨l⟩ := cs
  match l, h with
  | [c0, c1, c2, c3, c4, c5, c6, c7, c8], _ => exact ⟨c0, c1, c2, c3, c4, c5, c6, c7, c8, rfl⟩

set_option maxRecDepth 100000 in
theorem open_def {H : Type} {enc : TypeId × Value → H} {W : World} {base b0 : Nat} {r : Reach} {spare : TypeId → Bool} {held : Bool} {v : Value} {d : DataW H} {p : List MemPlace}
    (hv : Value.okWide Tryz.prog W r b0 38 v) (h : DataW.Trod enc Tryz.prog W base spare held 38 v d p) (hb : Rows.uptoBulk d ≤ 1048576) :
    ∃ (dn : ByteArray) (a : Option Addr) (len cap : Nat) (Nm : Nat → ByteArray), v = .agg #[.string dn, .slice a len cap] ∧ len ≤ cap ∧ len ≤ 1048576 ∧ NmsIn W a len Nm := by
  obtain ⟨cs, rfl, hsz⟩ := okWide_struct Tryz.underlying38 hv
  obtain ⟨c0, c1, rfl⟩ := array2 (hsz.trans (by kernel_rfl))
  have kS : Tryz.prog.cellsOf 9 = 1 := by kernel_rfl
  have kN : Tryz.prog.cellsOf 36 = 1 := by kernel_rfl
  obtain ⟨fuel, hf0⟩ := h
  obtain ⟨ys, n, _, hx, hl, hlen, hf⟩ := DataW.trod_struct Tryz.underlying38 hf0
  match ys, hlen with
  | [z0, z1], _ =>
    have t0 : DataW.trod enc Tryz.prog W base spare held n 9 [c0] = some z0 := by simpa [Value.cells, kS] using hf 0 _ rfl
    have t1 : DataW.trod enc Tryz.prog W base spare held n 36 [c1] = some z1 := by simpa [Value.cells, kN] using hf 1 _ rfl
    have hd : d = .agg [z0.1, z1.1] := congrArg Prod.fst hx
    rw [hd] at hb
    simp only [Rows.uptoBulk, Rows.uptoBulkAll] at hb
    obtain ⟨x0, e0, rfl, _⟩ := DataW.trod_string Tryz.underlying9 t0
    obtain ⟨a, len, cap, Nm, rfl, h1, h2, h3⟩ := open_nms t1 (by omega)
    simp only [List.cons.injEq, and_true] at e0
    subst e0
    exact ⟨x0, a, len, cap, Nm, rfl, h1, h2, h3⟩

set_option maxRecDepth 100000 in
theorem open_state {H : Type} {enc : TypeId × Value → H} {W : World} {base b0 : Nat} {r : Reach} {spare : TypeId → Bool} {held : Bool} {v : Value} {d : DataW H} {p : List MemPlace}
    (hv : Value.okWide Tryz.prog W r b0 42 v) (h : DataW.Trod enc Tryz.prog W base spare held 42 v d p) (hb : Rows.uptoBulk d ≤ 1048576) :
    ∃ (df id pa pn : ByteArray) (st : Int) (tx : ByteArray) (an : Option Addr) (ln cn : Nat) (ag : Option Addr) (lg cg : Nat) (ev : Int) (St Tr : Nat → Int) (Tx : Nat → ByteArray), v = .agg #[.string df, .string id, .string pa, .string pn, .int .i64 st, .string tx, .slice an ln cn, .slice ag lg cg, .int .i64 ev] ∧ df.size ≤ 1048576 ∧ id.size ≤ 1048576 ∧ tx.size ≤ 1048576 ∧ -9223372036854775808 ≤ ev ∧ ev ≤ 9223372036854775807 ∧ ln ≤ cn ∧ ln ≤ 1048576 ∧ NdsIn W an ln St Tr Tx := by
  obtain ⟨cs, rfl, hsz⟩ := okWide_struct Tryz.underlying42 hv
  obtain ⟨c0, c1, c2, c3, c4, c5, c6, c7, c8, rfl⟩ := array9 (hsz.trans (by kernel_rfl))
  have kI : Tryz.prog.cellsOf 3 = 1 := by kernel_rfl
  have kS : Tryz.prog.cellsOf 9 = 1 := by kernel_rfl
  have kN : Tryz.prog.cellsOf 39 = 1 := by kernel_rfl
  have kG : Tryz.prog.cellsOf 40 = 1 := by kernel_rfl
  obtain ⟨fuel, hf0⟩ := h
  obtain ⟨ys, n, _, hx, hl, hlen, hf⟩ := DataW.trod_struct Tryz.underlying42 hf0
  match ys, hlen with
  | [z0, z1, z2, z3, z4, z5, z6, z7, z8], _ =>
    have t0 : DataW.trod enc Tryz.prog W base spare held n 9 [c0] = some z0 := by simpa [Value.cells, kS] using hf 0 _ rfl
    have t1 : DataW.trod enc Tryz.prog W base spare held n 9 [c1] = some z1 := by simpa [Value.cells, kS] using hf 1 _ rfl
    have t2 : DataW.trod enc Tryz.prog W base spare held n 9 [c2] = some z2 := by simpa [Value.cells, kS] using hf 2 _ rfl
    have t3 : DataW.trod enc Tryz.prog W base spare held n 9 [c3] = some z3 := by simpa [Value.cells, kS] using hf 3 _ rfl
    have t4 : DataW.trod enc Tryz.prog W base spare held n 3 [c4] = some z4 := by simpa [Value.cells, kI] using hf 4 _ rfl
    have t5 : DataW.trod enc Tryz.prog W base spare held n 9 [c5] = some z5 := by simpa [Value.cells, kS] using hf 5 _ rfl
    have t6 : DataW.trod enc Tryz.prog W base spare held n 39 [c6] = some z6 := by simpa [Value.cells, kN] using hf 6 _ rfl
    have t7 : DataW.trod enc Tryz.prog W base spare held n 40 [c7] = some z7 := by simpa [Value.cells, kG] using hf 7 _ rfl
    have t8 : DataW.trod enc Tryz.prog W base spare held n 3 [c8] = some z8 := by simpa [Value.cells, kI] using hf 8 _ rfl
    have hd : d = .agg [z0.1, z1.1, z2.1, z3.1, z4.1, z5.1, z6.1, z7.1, z8.1] := congrArg Prod.fst hx
    rw [hd] at hb
    simp only [Rows.uptoBulk, Rows.uptoBulkAll] at hb
    obtain ⟨x0, e0, rfl, _⟩ := DataW.trod_string Tryz.underlying9 t0
    obtain ⟨x1, e1, rfl, _⟩ := DataW.trod_string Tryz.underlying9 t1
    obtain ⟨x2, e2, rfl, _⟩ := DataW.trod_string Tryz.underlying9 t2
    obtain ⟨x3, e3, rfl, _⟩ := DataW.trod_string Tryz.underlying9 t3
    obtain ⟨x4, e4, rfl, _⟩ := DataW.trod_int Tryz.underlying3 t4
    obtain ⟨x5, e5, rfl, _⟩ := DataW.trod_string Tryz.underlying9 t5
    obtain ⟨an, ln, cn, St, Tr, Tx, rfl, h1, h2, h3⟩ := open_nds t6 (by omega)
    have hg : ∃ ag lg cg, c7 = .slice ag lg cg := by
      rcases Deep.open_slice Tryz.underlying40 t7 with ⟨hcs, _⟩ | ⟨a, len, cap, m, n, D, Pl, hcs, _⟩
      · simp only [List.cons.injEq, and_true] at hcs
        exact ⟨_, _, _, hcs⟩
      · simp only [List.cons.injEq, and_true] at hcs
        exact ⟨_, _, _, hcs⟩
    obtain ⟨ag, lg, cg, rfl⟩ := hg
    obtain ⟨x8, e8, rfl, wf⟩ := DataW.trod_int Tryz.underlying3 t8
    simp only [List.cons.injEq, and_true] at e0 e1 e2 e3 e4 e5 e8
    subst e0 e1 e2 e3 e4 e5 e8
    simp only [str_bulk] at hb
    simp only [Lit.wf, Bool.and_eq_true, decide_eq_true_eq] at wf
    exact ⟨x0, x1, x2, x3, x4, x5, an, ln, cn, ag, lg, cg, x8, St, Tr, Tx, rfl, by omega, by omega, by omega, wf.1, wf.2, h1, h2, h3⟩

section
variable {H : Type} {enc : TypeId × Value → H} {a : Assume} {C : Checked} {os : Os} {f : FuncId} {fn : Func} {s : OpenSpec} {k : (H : Type) → List (DataW H) → Bool} {conds : List PathCond} {apart fresh handsOn again : Bool} {X : World → Array Value → Prop}

theorem returns_upto (hk : s.cond = some k) {F : Stop.Interp} (hX : ∀ (w w' : World) (args : Array Value), w.heap = w'.heap → X w args → X w' args)
    (own : ownKnob C.prog.godebug = none) (started : os.Started) (noInit : C.prog.inits.idxOf? f = none) (hfn : C.prog.funcs[f]? = some fn)
    (witness : ∃ (w : World) (tape : Tape) (i : Input), w.os = os ∧ (w.forCall tape i).Shaped C.prog ∧ i.vars = [] ∧ Input.okWide C.prog (w.forCall tape i) .any w.heap.size f i ∧
      ((s.pre enc C.prog fn conds apart (w.forCall tape i).memory i.args ∧ X (w.forCall tape i).memory i.args) ∧ sizedMet enc C.prog fn s apart (w.forCall tape i).memory i.args) ∧ a.holds C.prog (lone (Frame.enter C.prog f i.args .normal) [] (w.forCall tape i)))
    (contract : ∀ (W : World) (base : Nat) (args : Array Value) (ds gs : List (DataW H)) (before : List MemPlace),
      (∀ (j : Nat) t v, fn.params[j]? = some t → args[j]? = some v → Value.okWide C.prog W .any base t v) →
      DataW.Whole enc C.prog fn.params.toList s.vars apart W args.toList ds gs before →
      conds.all (PathCond.test C.prog ⟨fn.params.toList, ds, s.bare.plain.varTypes C.prog, gs⟩) = true → k H (ds ++ gs) = true → X W args →
      W.ShapedOpen C.prog →
      a.holds C.prog (lone (Frame.enter C.prog f args .normal) [] W) →
      Calls C.prog f args W fun e W' => ∃ v, e = .returned v ∧ (s.at F).post enc C.prog fn apart fresh handsOn again W args v W') :
    ReturnsInHanded a C os f .any (fun w args => (s.pre enc C.prog fn conds apart w args ∧ X w args) ∧ sizedMet enc C.prog fn s apart w args) ((s.at F).post enc C.prog fn apart fresh handsOn again) := by
  refine returnsInHanded_of_calls own started noInit witness ?_
  intro w tape i _ hsh _ hok hpre hholds
  obtain ⟨_, _, _, fn', hfn', _, _, _, _, hval⟩ := hok
  have e : fn' = fn := Option.some.inj (hfn'.symm.trans hfn)
  subst e
  obtain ⟨⟨hp, hx⟩, _⟩ := hpre
  obtain ⟨ds, gs, before, hw, hc, hkk⟩ := (OpenSpec.pre_some hk conds apart _ _).1 hp
  have hw' := DataW.Whole.of_heap (w' := w.forCall tape i) (by rfl) hw
  refine (contract (w.forCall tape i) w.heap.size i.args ds gs before hval hw' hc hkk (hX _ _ _ (by rfl) hx) hsh hholds).mono fun e W' ⟨v, he, hp⟩ => ?_
  subst he
  exact ChangeSpec.post_blind hp

theorem witness_upto (hk : s.cond = some k) (modest : Bool) (w0 : World) (args : Array Value) (fuel : Nat) (hos : w0.os = os)
    (hsh : (w0.forCall (fun _ _ => 0) ⟨#[], args, []⟩).Shaped C.prog)
    (hok : Input.okWideB C.prog (w0.forCall (fun _ _ => 0) ⟨#[], args, []⟩) f ⟨#[], args, []⟩ = true)
    {x : List (DataW H) × List (DataW H) × List MemPlace} (hx : DataW.whole enc C.prog (w0.forCall (fun _ _ => 0) ⟨#[], args, []⟩).memory fn.params.toList s.vars apart args.toList fuel = some x)
    (hconds : conds.all (PathCond.test C.prog ⟨fn.params.toList, x.1, s.bare.plain.varTypes C.prog, x.2.1⟩) = true) (hkk : k H (x.1 ++ x.2.1) = true)
    (hsz : s.bare.sizedB enc C.prog fn apart (w0.forCall (fun _ _ => 0) ⟨#[], args, []⟩).memory args fuel = true)
    (hX : X (w0.forCall (fun _ _ => 0) ⟨#[], args, []⟩).memory args) :
    ∃ (w : World) (tape : Tape) (i : Input), w.os = os ∧ (w.forCall tape i).Shaped C.prog ∧ i.vars = [] ∧ Input.okWide C.prog (w.forCall tape i) .any w.heap.size f i ∧
      ((s.pre enc C.prog fn conds apart (w.forCall tape i).memory i.args ∧ X (w.forCall tape i).memory i.args) ∧ sizedMet enc C.prog fn s apart (w.forCall tape i).memory i.args) ∧ ({ modest := modest } : Assume).holds C.prog (lone (Frame.enter C.prog f i.args .normal) [] (w.forCall tape i)) :=
  ⟨w0, fun _ _ => 0, ⟨#[], args, []⟩, hos, hsh, (Input.okWide_of_okWideB (base := 0) hok).1, (Input.okWide_of_okWideB hok).2, ⟨⟨(OpenSpec.pre_some hk conds apart _ _).2 ⟨x.1, x.2.1, x.2.2, DataW.Whole_of_whole hx, hconds, hkk⟩, hX⟩, sizedMet_of_sizedB hsz⟩, by
    simp only [Assume.holds]
    exact ⟨by simp, by simp, fun _ => Modest.zero, by simp, by simp⟩⟩

end

end Go.Proofs.YtdbplemcjnlfiaaGreatDoor
