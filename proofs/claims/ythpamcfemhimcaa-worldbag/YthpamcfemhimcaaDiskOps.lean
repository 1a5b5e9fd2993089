/-
  The disk's operations: Append, Sync, Delete.
-/
import Derived.Test.YthpamcfemhimcaaDiskPut
namespace Go.Proofs.Ythpamcfemhimcaa
open Go.RowKit Go.Maps Go.ChangeMaps Go.MapKept

/-- Bytes that are handed in: they lie where a says. -/
structure BytesAt (w : World) (a : Option Addr) (m c : Nat) (b : List Int) : Prop where
  len : b.length = m
  cap : m ≤ c
  nil : a = none → m = 0
  cells : ∀ ad, a = some ad → ∀ j u, (b.map (Value.int .u8))[j]? = some u → w.cell? (ad.add j) = some u
  byte : ∀ y ∈ b, 0 ≤ y ∧ y ≤ 255

theorem block_add (a : Addr) (j : Nat) : (a.add j).block = a.block := by unfold Addr.add; split <;> rfl

theorem BytesAt.kept {S : Nat → Prop} {w w' : World} {a : Option Addr} {m c : Nat} {b : List Int} (B : BytesAt w a m c b) (K : Kept S w w') (hs : b ≠ [] → ∀ ad, a = some ad → ¬ S ad.block) : BytesAt w' a m c b :=
  ⟨B.len, B.cap, B.nil, fun ad h j u hu => by
    have hc := B.cells ad h j u hu
    rw [World.cell?_of_block (w := w) (K.block _ (World.block_lt_of_cell? w _ hc) (by rw [block_add]; exact hs (fun e => by rw [e] at hu; simp at hu) ad h))]
    exact hc, B.byte⟩

theorem BytesAt.take {w : World} {a : Option Addr} {m c : Nat} {b : List Int} (B : BytesAt w a m c b) {h : Nat} (hh : h ≤ m) : BytesAt w a h c (b.take h) :=
  ⟨by rw [List.length_take, B.len]; omega, Nat.le_trans hh B.cap, fun e => by have := B.nil e; omega, fun ad e j u hu => B.cells ad e j u (by
    rw [List.map_take, List.getElem?_take] at hu
    split at hu
    · exact hu
    · cases hu), fun y hy => B.byte y (List.mem_of_mem_take hy)⟩

/-- Bytes put at a file's end; none change nothing. -/
def DSt.put (st : DSt) (x : Int) (b : List Int) : DSt := if b = [] then st else { st with files := setF st.files x (some (putF (st.files x) b)) }

/-- What Append makes of a disk. -/
def DSt.append (st : DSt) (x : Int) (b : List Int) : DSt :=
  if st.err x = 0 then st.after.put x b
  else if st.err x = 3 ∧ st.kind = 2 ∧ 0 ≤ x then st.after.put x (b.take (b.length / 2))
  else st.after

theorem DSt.err_cases (st : DSt) (x : Int) : st.err x = 0 ∨ st.err x = 1 ∨ st.err x = 3 ∨ st.err x = 4 := by
  unfold DSt.err
  (repeat' split) <;> simp

section
variable {w : World} {S : Nat → Prop} {d n L : Nat} {st : DSt} {bf bq : Nat} {G C : Int → Nat}

theorem DiskIn.mono (D : DiskIn w S d n L st bf bq G C) {n' L' : Nat} (hn : n ≤ n') (hL : L ≤ L') : DiskIn w S d n' L' st bf bq G C :=
  { D with tf := D.tf.mono hn, tq := D.tq.mono hn, len := fun x f h => Nat.le_trans (D.len x f h) hL }

theorem put_any (D : DiskIn w S d n L st bf bq G C) (x : Int) (hx : isI64 x) {a : Option Addr} {m c : Nat} {b : List Int} (B : BytesAt w a m c b) (hM : L + m ≤ 70368744177664) (hn : n < 4611686018427387904) :
    Calls Try.prog 44 #[.pointer (some ⟨d, 0, none⟩), .int .i64 x, .slice a m c] w fun e w' =>
      e = .returned (.tuple #[]) ∧ ∃ S' G' C', DiskIn w' S' d (n + 1) (L + m) (st.put x b) bf bq G' C' ∧ Kept S w w' ∧ ∀ k, S' k → S k ∨ w.heap.size ≤ k := by
  by_cases hm : m = 0
  · subst hm
    have hb : b = [] := List.eq_nil_of_length_eq_zero B.len
    refine (put_none a c x).mono ?_
    rintro e w' ⟨rfl, rfl⟩
    refine ⟨rfl, S, G, C, ?_, Kept.refl _ _, fun _ => .inl⟩
    simp only [DSt.put, hb, if_true]
    exact D.mono (Nat.le_succ _) (by omega)
  · have hbne : b ≠ [] := fun e => hm (by rw [← B.len, e]; rfl)
    cases a with
    | none => exact absurd (B.nil rfl) hm
    | some ad =>
      simp only [DSt.put, hbne, if_false]
      cases hF : st.files x with
      | none =>
        have hv : ((fun x => (st.files x).map fun f => fileVal (G x) (C x) f) x).getD (.agg #[.slice none 0 0, .int .i64 0]) = .agg #[.slice none 0 0, .int .i64 0] := by simp [hF]
        refine (put_gen x hx _ none 0 0 0 [] hv D.c0 D.tf (World.ownsRow_nil _ _ _ _) (by simp [Value.ownBlock]) (by simp [Value.ownBlock]) ad m c b B.len (by omega) (by omega) hn (B.cells ad rfl)).mono ?_
        rintro e w' ⟨rfl, g, cap, hrow, hat, T, hz, ho, hb⟩
        have hg : g = w.heap.size + 1 := by rcases hat with h | h; · cases h
                                            · exact h
        have e1 : Value.agg #[.slice (some ⟨g, 0, none⟩) (0 + m) cap, .int .i64 0] = fileVal g cap (putF none b) := by simp [fileVal, putF, B.len]
        rw [e1] at T
        have F : FileAt w' g cap (putF none b) := ⟨by simpa [putF, B.len] using hrow, Nat.zero_le _, by simp only [putF]; rw [B.len]; omega, B.byte⟩
        refine ⟨rfl, fun k => S k ∨ k = g, _, _, D.setFile (Nat.le_succ n) (Nat.le_add_right L m) (by simp only [putF]; rw [B.len]; omega) (fun k hk hkf _ _ => hb k (D.bnd k hk) hkf (by simp [Value.ownBlock])) hz T F (.inr (by omega)), ?_, ?_⟩
        · exact ⟨ho.1, ho.2.1, ho.2.2, hz, fun k hk hn' => hb k hk (fun e => hn' (e ▸ D.sf)) (by simp [Value.ownBlock])⟩
        · rintro k (hk | rfl)
          · exact .inl hk
          · right; omega
      | some f =>
        have hF' := D.rows x f hF
        have hlen := D.len x f hF
        have hv : ((fun x => (st.files x).map fun f => fileVal (G x) (C x) f) x).getD (.agg #[.slice none 0 0, .int .i64 0]) = .agg #[.slice (some ⟨G x, 0, none⟩) f.bytes.length (C x), .int .i64 f.kept] := by simp [hF, fileVal]
        refine (put_gen x hx _ _ _ _ _ _ hv D.c0 D.tf hF'.row (by simp only [Value.ownBlock, ne_eq, Option.some.injEq]; exact D.neG hF) (by simp only [Value.ownBlock, ne_eq, Option.some.injEq]; exact D.neGf hF) ad m c b B.len (by omega) (by omega) hn (B.cells ad rfl)).mono ?_
        rintro e w' ⟨rfl, g, cap, hrow, hat, T, hz, ho, hb⟩
        have e1 : Value.agg #[.slice (some ⟨g, 0, none⟩) (f.bytes.length + m) cap, .int .i64 f.kept] = fileVal g cap (putF (some f) b) := by simp [fileVal, putF, B.len]
        rw [e1] at T
        have F : FileAt w' g cap (putF (some f) b) := ⟨by simpa [putF, B.len] using hrow, by have := hF'.kept; simp only [putF, List.length_append]; omega, by have := hF'.pos; simp only [putF, List.length_append]; omega, by
          intro y hy
          simp only [putF, List.mem_append] at hy
          exact hy.elim (hF'.byte y) (B.byte y)⟩
        have hown : ∀ k, k ≠ G x → (Value.slice (some ⟨G x, 0, none⟩) f.bytes.length (C x)).ownBlock ≠ some k := fun k hk e => hk (by simpa [Value.ownBlock] using e.symm)
        refine ⟨rfl, fun k => S k ∨ k = g, _, _, D.setFile (Nat.le_succ n) (Nat.le_add_right L m) (by simp only [putF, List.length_append]; rw [B.len]; omega) (fun k hk hkf _ hkx => hb k (D.bnd k hk) hkf (hown k (hkx f hF))) hz T F ?_, ?_, ?_⟩
        · rcases hat with h | h
          · exact .inl ⟨f, hF, by simpa [Value.ownBlock] using h⟩
          · right; omega
        · exact ⟨ho.1, ho.2.1, ho.2.2, hz, fun k hk hn' => hb k hk (fun e => hn' (e ▸ D.sf)) (hown k (fun e => hn' (e ▸ D.sg x f hF)))⟩
        · rintro k (hk | rfl)
          · exact .inl hk
          · rcases hat with h | h
            · exact .inl (by have : G x = k := by simpa [Value.ownBlock] using h
                             exact this ▸ D.sg x f hF)
            · right; omega

set_option maxRecDepth 100000 in
set_option maxHeartbeats 1000000 in
theorem append_any (D : DiskIn w S d n L st bf bq G C) (x : Int) (hx : isI64 x) {a : Option Addr} {m c : Nat} {b : List Int} (B : BytesAt w a m c b) (hsep : b ≠ [] → ∀ ad, a = some ad → ¬ S ad.block) (hM : L + m ≤ 70368744177664) (hn : n < 4611686018427387904) (hops : st.ops < 4611686018427387904) :
    Calls Try.prog 35 #[.pointer (some ⟨d, 0, none⟩), .int .i64 x, .slice a m c] w fun e w' =>
      e = .returned (.int .i64 (st.err x)) ∧ ∃ S' G' C', DiskIn w' S' d (n + 1) (L + m) (st.append x b) bf bq G' C' ∧ Kept S w w' ∧ ∀ k, S' k → S k ∨ w.heap.size ≤ k := by
  have hbeg := begin_any D x hops
  have hmc := B.cap
  have hput : ∀ w1, DiskIn w1 S d n L st.after bf bq G C → Kept S w w1 → Calls Try.prog 44 #[.pointer (some ⟨d, 0, none⟩), .int .i64 x, .slice a m c] w1 fun e w' =>
      e = .returned (.tuple #[]) ∧ ∃ S' G' C', DiskIn w' S' d (n + 1) (L + m) (st.after.put x b) bf bq G' C' ∧ Kept S w w' ∧ ∀ k, S' k → S k ∨ w.heap.size ≤ k := by
    intro w1 D1 K1
    refine (put_any D1 x hx (B.kept K1 hsep) hM hn).mono ?_
    rintro e w' ⟨rfl, S', G', C', D2, K2, hS⟩
    exact ⟨rfl, S', G', C', D2, K1.and K2, fun k hk => (hS k hk).elim .inl (fun h => .inr (Nat.le_trans K1.size h))⟩
  have hhalf : ∀ w1, DiskIn w1 S d n L st.after bf bq G C → Kept S w w1 → Calls Try.prog 44 #[.pointer (some ⟨d, 0, none⟩), .int .i64 x, .slice a (m / 2) c] w1 fun e w' =>
      e = .returned (.tuple #[]) ∧ ∃ S' G' C', DiskIn w' S' d (n + 1) (L + m) (st.after.put x (b.take (b.length / 2))) bf bq G' C' ∧ Kept S w w' ∧ ∀ k, S' k → S k ∨ w.heap.size ≤ k := by
    intro w1 D1 K1
    refine (put_any D1 x hx (b := b.take (b.length / 2)) (m := m / 2) (by rw [B.len]; exact (B.kept K1 hsep).take (by omega)) (by omega) hn).mono ?_
    rintro e w' ⟨rfl, S', G', C', D2, K2, hS⟩
    exact ⟨rfl, S', G', C', D2.mono (Nat.le_refl _) (by omega), K1.and K2, fun k hk => (hS k hk).elim .inl (fun h => .inr (Nat.le_trans K1.size h))⟩
  clear hsep
  have hcase := st.err_cases x
  have stay : st.append x b = st.after → ∀ w1, DiskIn w1 S d n L st.after bf bq G C → Kept S w w1 → ∃ S' G' C', DiskIn w1 S' d (n + 1) (L + m) (st.append x b) bf bq G' C' ∧ Kept S w w1 ∧ ∀ k, S' k → S k ∨ w.heap.size ≤ k :=
    fun e w1 D1 K1 => ⟨S, G, C, by rw [e]; exact D1.mono (Nat.le_succ _) (by omega), K1, fun _ => .inl⟩
  rcases hcase with he | he | he | he
  · have ea : st.append x b = st.after.put x b := by simp [DSt.append, he]
    rw [ea]
    rw [he] at hbeg ⊢
    clear stay hhalf D B he ea
    go_enter Try.func35, Try.ntmps35
    go_wp2_with (first
      | (go_at_call 43; refine hbeg.mono ?_; rintro e w1 ⟨rfl, D1, K1⟩; clear hbeg ; have hp := hput w1 D1 K1; clear hput D1 K1)
      | (go_at_call 44; refine hp.mono ?_; rintro e w2 ⟨rfl, F2⟩; clear hp)
      | fail)
    go_ret
    exact ⟨rfl, F2⟩
  · have ea : st.append x b = st.after := by simp [DSt.append, he]
    have st2 := stay ea
    rw [he] at hbeg ⊢
    clear stay hhalf hput D B he ea
    go_enter Try.func35, Try.ntmps35
    go_wp2_with (first
      | (go_at_call 43; refine hbeg.mono ?_; rintro e w1 ⟨rfl, D1, K1⟩; clear hbeg ; have hp := st2 w1 D1 K1; clear st2 D1 K1)
      | fail)
    go_ret
    exact ⟨rfl, hp⟩
  · by_cases hk : st.kind = 2
    · by_cases hx0 : 0 ≤ x
      · have ea : st.append x b = st.after.put x (b.take (b.length / 2)) := by simp [DSt.append, he, hk, hx0]
        rw [ea]
        rw [he, hk] at hbeg
        rw [he]
        clear stay hput D B he ea hk
        have hm2 : (0 : Int) ≤ (m : Int) := by omega
        have hmc2 : (m : Int) ≤ (c : Int) := by omega
        go_enter Try.func35, Try.ntmps35
        go_wp2_with (first
          | (go_at_call 43; refine hbeg.mono ?_; rintro e w1 ⟨rfl, D1, K1⟩; clear hbeg; have hp := hhalf w1 D1 K1; clear hhalf D1 K1)
          | (go_at_call 44; refine hp.mono ?_; rintro e w2 ⟨rfl, F2⟩; clear hp)
          | fail)
        go_ret
        exact ⟨rfl, F2⟩
      · have ea : st.append x b = st.after := by simp [DSt.append, he, hx0]
        have st2 := stay ea
        rw [he, hk] at hbeg
        rw [he]
        clear stay hhalf hput D B he ea hk
        go_enter Try.func35, Try.ntmps35
        go_wp2_with (first
          | (go_at_call 43; refine hbeg.mono ?_; rintro e w1 ⟨rfl, D1, K1⟩; clear hbeg; have hp := st2 w1 D1 K1; clear st2 D1 K1)
          | fail)
        go_ret
        exact ⟨rfl, hp⟩
    · have ea : st.append x b = st.after := by simp [DSt.append, he, hk]
      have st2 := stay ea
      have hk2 : (st.kind == 2) = false := by simpa using hk
      rw [he] at hbeg ⊢
      clear stay hhalf hput D B he ea hk
      go_enter Try.func35, Try.ntmps35
      go_wp2_with (first
        | (go_at_call 43; refine hbeg.mono ?_; rintro e w1 ⟨rfl, D1, K1⟩; clear hbeg; have hp := st2 w1 D1 K1; clear st2 D1 K1)
        | fail)
      go_ret
      exact ⟨rfl, hp⟩
  · have ea : st.append x b = st.after := by simp [DSt.append, he]
    have st2 := stay ea
    rw [he] at hbeg ⊢
    clear stay hhalf hput D B he ea
    go_enter Try.func35, Try.ntmps35
    go_wp2_with (first
      | (go_at_call 43; refine hbeg.mono ?_; rintro e w1 ⟨rfl, D1, K1⟩; clear hbeg ; have hp := st2 w1 D1 K1; clear st2 D1 K1)
      | fail)
    go_ret
    exact ⟨rfl, hp⟩

/-- What Sync makes of a disk. -/
def DSt.sync (st : DSt) (x : Int) : DSt :=
  if st.err x = 0 then (match st.files x with | some f => { st.after with files := setF st.files x (some ⟨f.bytes, f.bytes.length⟩) } | none => st.after) else st.after

/-- What Delete makes of a disk. -/
def DSt.delete (st : DSt) (x : Int) : DSt := if st.err x = 0 then { st.after with files := setF st.files x none } else st.after

set_option maxRecDepth 100000 in
set_option maxHeartbeats 1000000 in
theorem sync_any (D : DiskIn w S d n L st bf bq G C) (x : Int) (hx : isI64 x) (hn : n < 4611686018427387904) (hops : st.ops < 4611686018427387904) :
    Calls Try.prog 36 #[.pointer (some ⟨d, 0, none⟩), .int .i64 x] w fun e w' =>
      e = .returned (.int .i64 (st.err x)) ∧ ∃ S' G' C', DiskIn w' S' d (n + 1) L (st.sync x) bf bq G' C' ∧ Kept S w w' ∧ ∀ k, S' k → S k ∨ w.heap.size ≤ k := by
  have hbeg := begin_any D x hops
  by_cases he : st.err x = 0
  · cases hF : st.files x with
    | none =>
      have ea : st.sync x = st.after := by simp [DSt.sync, he, hF]
      rw [ea]
      rw [he] at hbeg ⊢
      have hFa : st.after.files x = none := hF
      have hv : ((fun x => (st.after.files x).map fun f => fileVal (G x) (C x) f) x).getD (.agg #[.slice none 0 0, .int .i64 0]) = .agg #[.slice none 0 0, .int .i64 0] := by simp [hFa]
      have hs : ((fun x => (st.after.files x).map fun f => fileVal (G x) (C x) f) x).isSome = false := by simp [hFa]
      clear D he ea hFa
      go_enter Try.func36, Try.ntmps36
      go_wp2_with (first
        | (go_at_call 43; refine hbeg.mono ?_; rintro e w1 ⟨rfl, D1, K1⟩; clear hbeg; have c0 := D1.c0)
        | (at_lookup; refine wpList_tab_lookOk _ rfl _ _ 68 rfl 3 76 Try.underlying3 Try.underlying68 (Try.zeroValue76 _) bf n _ D1.tf rfl x hx rfl _ hv _ hs ?_; clear hv hs)
        | fail)
      go_ret
      exact ⟨rfl, S, G, C, (D1.kept (Kept.alloc (fun _ => False) _ _) (fun _ _ h => h)).mono (Nat.le_succ _) (Nat.le_refl _), K1.and (Kept.alloc _ _ _), fun _ => .inl⟩
    | some f =>
      have ea : st.sync x = { st.after with files := setF st.files x (some ⟨f.bytes, f.bytes.length⟩) } := by simp [DSt.sync, he, hF]
      rw [ea]
      rw [he] at hbeg ⊢
      have hFa : st.after.files x = some f := hF
      have hFr := D.rows x f hF
      have hlen := D.len x f hF
      have hv : ((fun x => (st.after.files x).map fun f => fileVal (G x) (C x) f) x).getD (.agg #[.slice none 0 0, .int .i64 0]) = .agg #[.slice (some ⟨G x, 0, none⟩) f.bytes.length (C x), .int .i64 f.kept] := by simp [hFa, fileVal]
      have hs : ((fun x => (st.after.files x).map fun f => fileVal (G x) (C x) f) x).isSome = true := by simp [hFa]
      have key : ∀ w1, DiskIn w1 S d n L st.after bf bq G C → Kept S w w1 → ∃ w2, (Instr.mapUpdate 68 (.map (some bf)) (.int .i64 x) (.agg #[.slice (some ⟨G x, 0, none⟩) f.bytes.length (C x), .int .i64 f.bytes.length])).run Try.prog (w1.alloc (.cells #[.slice (some ⟨G x, 0, none⟩) f.bytes.length (C x), .int .i64 f.bytes.length] 76)).drew = .ok () w2 ∧
          ∃ S' G' C', DiskIn w2 S' d (n + 1) L { st.after with files := setF st.files x (some ⟨f.bytes, f.bytes.length⟩) } bf bq G' C' ∧ Kept S w w2 ∧ ∀ k, S' k → S k ∨ w.heap.size ≤ k := by
        intro w1 D1 K1
        have KA : Kept (fun _ => False) w1 (w1.alloc (.cells #[.slice (some ⟨G x, 0, none⟩) f.bytes.length (C x), .int .i64 f.bytes.length] 76)).drew := (Kept.alloc _ _ _).and (Kept.drew _ _)
        have D2 := D1.kept KA (fun _ _ h => h)
        obtain ⟨w2, hrun, T2, ht2⟩ := D2.tf.store (i := x) Try.underlying3 Try.underlying68 (by unfold maxLen; omega) hx (.agg #[.slice (some ⟨G x, 0, none⟩) f.bytes.length (C x), .int .i64 f.bytes.length])
        have hb2 : ∀ k, k ≠ bf → w2.heap[k]? = (w1.alloc (.cells #[.slice (some ⟨G x, 0, none⟩) f.bytes.length (C x), .int .i64 f.bytes.length] 76)).drew.heap[k]? := by
          intro k hk
          obtain ⟨es, c', es', c'', h, rfl⟩ := ht2
          exact heap_setBlock_other h _ hk
        have F0 := D2.rows x f hFa
        refine ⟨w2, hrun, fun k => S k ∨ k = G x, _, _, D2.setFile (Nat.le_succ n) (Nat.le_refl L) hlen (fun k _ hkf _ _ => hb2 k hkf) ht2.grown.size T2 ⟨(F0.of (hb2 _ (D2.neGf hFa))).row, Nat.le_refl _, F0.pos, F0.byte⟩ (.inl ⟨f, hFa, rfl⟩), ?_, ?_⟩
        · exact (K1.and (KA.mono (fun _ h => h.elim))).and (Kept.turned ht2 D2.sf)
        · rintro k (hk | rfl)
          · exact .inl hk
          · exact .inl (D1.sg x f hFa)
      clear D he ea hFa hFr
      go_enter Try.func36, Try.ntmps36
      go_wp2_with (first
        | (go_at_call 43; refine hbeg.mono ?_; rintro e w1 ⟨rfl, D1, K1⟩; clear hbeg; have c0 := D1.c0; have hdl : d < w1.heap.size := D1.bnd d D1.sd; obtain ⟨w2, hrun, F2⟩ := key w1 D1 K1; clear key)
        | (at_lookup; refine wpList_tab_lookOk _ rfl _ _ 68 rfl 3 76 Try.underlying3 Try.underlying68 (Try.zeroValue76 _) bf n _ D1.tf rfl x hx rfl _ hv _ hs ?_; clear hv hs)
        | fail)
      go_region
      all_goals go_wp2
      go_ret
      exact ⟨rfl, F2⟩
  · have ea : st.sync x = st.after := by simp [DSt.sync, he]
    rw [ea]
    have he2 : (st.err x == 0) = false := by simpa using he
    clear D he ea
    go_enter Try.func36, Try.ntmps36
    go_wp2_with (first
      | (go_at_call 43; refine hbeg.mono ?_; rintro e w1 ⟨rfl, D1, K1⟩; clear hbeg)
      | fail)
    go_ret
    exact ⟨rfl, S, G, C, D1.mono (Nat.le_succ _) (Nat.le_refl _), K1, fun _ => .inl⟩
end

end Go.Proofs.Ythpamcfemhimcaa
