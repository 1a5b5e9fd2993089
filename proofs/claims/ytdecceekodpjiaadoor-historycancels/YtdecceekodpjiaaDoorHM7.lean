/-
  begin: a node begins.
-/
import Derived.Test.YtdecceekodpjiaaDoorHChild
import Derived.Test.YtdecceekodpjiaaDoorHBeg2
namespace Go.Proofs.YtdecceekodpjiaaDoor
open Go.RowKit

def zeroMl : Ml := ⟨0, ⟨#[]⟩, ⟨#[]⟩, ⟨#[]⟩, ⟨#[]⟩, ⟨#[]⟩, 0⟩

def beginP (nm : ByteArray) (ns : List Nd) (r : Rn) (x : Nd) : Rn :=
  if x.kind = 1 then tellP nm ns r ⟨2, x.name, ⟨#[]⟩, 0⟩ [⟨1, ⟨#[]⟩, x.name, 1, 0, zeroMl⟩]
  else if x.kind = 2 then tellP nm ns r ⟨7, x.name, ⟨#[]⟩, IntKind.i64.wrap (r.now + x.delay)⟩ [⟨2, ⟨#[]⟩, x.name, 0, IntKind.i64.wrap (r.now + x.delay), zeroMl⟩]
  else if x.kind = 3 then askP nm ns r x
  else if x.kind = 4 then waitP nm ns r x
  else if x.kind = 5 then tellP nm ns r ⟨14, x.name, ⟨#[]⟩, 0⟩ [msgP r.st.id ⟨3, x.«to», ⟨#[]⟩, x.name, x.arg, ⟨#[]⟩, 0⟩]
  else r

/-- tell with one task that lies in a new row. -/
theorem tell1 {w0 V : World} {H : Nat → Prop} {rb : Nat} {nm : ByteArray} {a : Option Addr} {c : Nat} {ns : List Nd} {r : Rn} {m : Nat} (E : Env w0 V H a ns) (R : RAt V H rb nm a ns.length c r) (F : Fit r m) (hm : m ≤ 1000000) (ev : Ev) (t : Tk) :
    Calls Tryd.prog 34 #[.pointer (some ⟨rb, 0, none⟩), .agg #[.int .i64 ev.kind, .string ev.node, .string ev.text, .int .i64 ev.num], .slice (some ⟨V.heap.size, 0, none⟩) 1 1] (V.alloc (.cells #[.int .i64 t.kind, .complex .f64 0 0, .string t.flow, .string t.node, .int .i64 t.tr, .int .i64 t.tm, .int .i64 t.mail.kind, .string t.mail.dst, .string t.mail.src, .string t.mail.node, .string t.mail.name, .string t.mail.text, .int .i64 t.mail.status] 50)) fun e w' => e = .returned (.tuple #[]) ∧ RGoes V H rb nm a ns.length c (tellP nm ns r ev [t]) w' := by
  have K6 : Kept (fun _ => False) V (V.alloc (.cells #[.int .i64 t.kind, .complex .f64 0 0, .string t.flow, .string t.node, .int .i64 t.tr, .int .i64 t.tm, .int .i64 t.mail.kind, .string t.mail.dst, .string t.mail.src, .string t.mail.node, .string t.mail.name, .string t.mail.text, .int .i64 t.mail.status] 50)) := Kept.alloc _ _ _
  have ht : ∀ g, H g → g < V.heap.size := by obtain ⟨_, _, _, _, _, _, _, _, ht⟩ := R; exact ht
  have hg : ∀ g, slBlk (.slice (some ⟨V.heap.size, 0, none⟩) [t].length 1) = some g → ¬ H g := fun g hg hh => by
    obtain rfl : V.heap.size = g := by simpa [slBlk] using hg
    exact absurd (ht _ hh) (Nat.lt_irrefl _)
  have hT := tellE (E.new K6) (R.new K6) F hm ev [t] _ 1 (flat_new V t) (by simp) hg
  rw [show [t].length = 1 from rfl] at hT
  exact hT.mono (fun e w' h => ⟨h.1, h.2.first K6⟩)

end Go.Proofs.YtdecceekodpjiaaDoor

/-
  begin: a node begins, by its kind.
-/
namespace Go.Proofs.YtdecceekodpjiaaDoor
open Go.RowKit

set_option maxRecDepth 100000 in
set_option maxHeartbeats 2000000 in
theorem begin_any {w0 w : World} {H : Nat → Prop} {rb : Nat} {nm : ByteArray} {a : Option Addr} {c : Nat} {ns : List Nd} {r : Rn} {m : Nat} (E : Env w0 w H a ns) (R : RAt w H rb nm a ns.length c r) (F : Fit r m) (hm : m ≤ 999999) (hn : ns.length ≤ 999999) (x : Nd) (hx : x.name.size ≤ 100000000) (av : Option Addr) (cv : Nat) :
    Calls Tryd.prog 50 #[.pointer (some ⟨rb, 0, none⟩), .agg #[.string x.name, .int .i64 x.kind, .string x.arg, .string x.«to», .int .i64 x.delay, .int .i64 x.tries, .slice av x.after.length cv]] w fun e w' => e = .returned (.tuple #[]) ∧ RGoes w H rb nm a ns.length c (beginP nm ns r x) w' := by
  have KA : Kept (fun _ => False) w (w.alloc (.cells #[.string x.name, .int .i64 x.kind, .string x.arg, .string x.«to», .int .i64 x.delay, .int .i64 x.tries, .slice av x.after.length cv] 32)) := Kept.alloc _ _ _
  have hA := heap_alloc_new w (.cells #[.string x.name, .int .i64 x.kind, .string x.arg, .string x.«to», .int .i64 x.delay, .int .i64 x.tries, .slice av x.after.length cv] 32)
  obtain ⟨n0, n1, n2, n3, n4⟩ := sevenC hA
  have R1 := R.new KA
  have E1 := E.new KA
  have HR := hid R
  have HKA := hid KA
  have HE1 := hid E1
  have HR1 := hid R1
  have HF := hid F
  clear KA hA R E E1 R1 F
  by_cases h1 : x.kind = 1
  · have HW := hid (show beginP nm ns r x = tellP nm ns r ⟨2, x.name, ⟨#[]⟩, 0⟩ [⟨1, ⟨#[]⟩, x.name, 1, 0, zeroMl⟩] by unfold beginP; rw [if_pos h1])
    have e1 : (x.kind == 1) = true := by simp [h1]
    have hT := tell1 HE1.out HR1.out HF.out (by omega) ⟨2, x.name, ⟨#[]⟩, 0⟩ ⟨1, ⟨#[]⟩, x.name, 1, 0, zeroMl⟩
    unfold zeroMl at hT
    dsimp only at hT
    rw [World.size_alloc] at hT
    clear h1
    go_enter Tryd.func50, Tryd.ntmps50
    go_wp2_with (first
      | (go_at_call 34; refine hT.mono ?_; rintro e w9 ⟨rfl, X9⟩; clear hT)
      | fail)
    go_end0
    refine ⟨rfl, ?_⟩
    rw [HW.out]
    exact X9.first HKA.out
  · have e1 : (x.kind == 1) = false := by simp [h1]
    by_cases h2 : x.kind = 2
    · obtain ⟨z, hz⟩ : ∃ z, IntKind.i64.wrap (r.now + x.delay) = z := ⟨_, rfl⟩
      have HW := hid (show beginP nm ns r x = tellP nm ns r ⟨7, x.name, ⟨#[]⟩, z⟩ [⟨2, ⟨#[]⟩, x.name, 0, z, zeroMl⟩] by unfold beginP; rw [if_neg h1, if_pos h2, hz])
      have e2 : (x.kind == 2) = true := by simp [h2]
      obtain ⟨v6, v7, v12, v13, hb, _⟩ := HR1.out.opened
      obtain ⟨_, _, _, _, _, _, _, _, _, _, _, x11⟩ := runCells hb
      clear h1 h2 hb
      go_enter Tryd.func50, Tryd.ntmps50
      go_upto_region 6 with (first | go_quiet (fail) | fail)
      have KN := Kept.drewN (fun _ => False) (w.alloc (.cells #[.string x.name, .int .i64 x.kind, .string x.arg, .string x.«to», .int .i64 x.delay, .int .i64 x.tries, .slice av x.after.length cv] 32)) nq
      have m0 := keepC KN n0 (fun _ _ h => h)
      have hT := tell1 (HE1.out.new KN) (HR1.out.new KN) HF.out (by omega) ⟨7, x.name, ⟨#[]⟩, z⟩ ⟨2, ⟨#[]⟩, x.name, 0, z, zeroMl⟩
      have HKN := hid (HKA.out.and KN)
      unfold zeroMl at hT
      dsimp only at hT
      clear n0 n1 n2 n3 n4 x11 KN HE1 HR1 HKA
      generalize (w.alloc (.cells #[.string x.name, .int .i64 x.kind, .string x.arg, .string x.«to», .int .i64 x.delay, .int .i64 x.tries, .slice av x.after.length cv] 32)).drewN nq = V at *
      go_wp2_with (first
        | (go_at_call 34; refine hT.mono ?_; rintro e w9 ⟨rfl, X9⟩; clear hT)
        | fail)
      go_end0
      refine ⟨rfl, ?_⟩
      rw [HW.out]
      exact X9.first HKN.out
    · have e2 : (x.kind == 2) = false := by simp [h2]
      by_cases h3 : x.kind = 3
      · have HW := hid (show beginP nm ns r x = askP nm ns r x by unfold beginP; rw [if_neg h1, if_neg h2, if_pos h3])
        have e3 : (x.kind == 3) = true := by simp [h3]
        have hT := beginChild_any HE1.out HR1.out HF.out hm hn x hx av x.after.length cv
        clear h1 h2 h3
        go_enter Tryd.func50, Tryd.ntmps50
        go_wp2_with (first
          | (go_at_call 63; refine hT.mono ?_; rintro e w9 ⟨rfl, X9⟩; clear hT)
          | fail)
        go_end0
        refine ⟨rfl, ?_⟩
        rw [HW.out]
        exact X9.first HKA.out
      · have e3 : (x.kind == 3) = false := by simp [h3]
        by_cases h4 : x.kind = 4
        · have HW := hid (show beginP nm ns r x = waitP nm ns r x by unfold beginP; rw [if_neg h1, if_neg h2, if_neg h3, if_pos h4])
          have e4 : (x.kind == 4) = true := by simp [h4]
          have hT := beginWait_any HE1.out HR1.out HF.out (by omega) x av x.after.length cv
          clear h1 h2 h3 h4
          go_enter Tryd.func50, Tryd.ntmps50
          go_wp2_with (first
            | (go_at_call 64; refine hT.mono ?_; rintro e w9 ⟨rfl, X9⟩; clear hT)
            | fail)
          go_end0
          refine ⟨rfl, ?_⟩
          rw [HW.out]
          exact X9.first HKA.out
        · have e4 : (x.kind == 4) = false := by simp [h4]
          by_cases h5 : x.kind = 5
          · have HW := hid (show beginP nm ns r x = tellP nm ns r ⟨14, x.name, ⟨#[]⟩, 0⟩ [msgP r.st.id ⟨3, x.«to», ⟨#[]⟩, x.name, x.arg, ⟨#[]⟩, 0⟩] by unfold beginP; rw [if_neg h1, if_neg h2, if_neg h3, if_neg h4, if_pos h5])
            have e5 : (x.kind == 5) = true := by simp [h5]
            obtain ⟨t, ht⟩ : ∃ t, t = msgP r.st.id ⟨3, x.«to», ⟨#[]⟩, x.name, x.arg, ⟨#[]⟩, 0⟩ := ⟨_, rfl⟩
            rw [← ht] at HW
            have hM := message_any (w.alloc (.cells #[.string x.name, .int .i64 x.kind, .string x.arg, .string x.«to», .int .i64 x.delay, .int .i64 x.tries, .slice av x.after.length cv] 32)).drew H rb nm a _ c r (HR1.out.new (Kept.drew _ _)) ⟨3, x.«to», ⟨#[]⟩, x.name, x.arg, ⟨#[]⟩, 0⟩
            rw [← ht] at hM
            have hT := fun V (KV : Kept (fun _ => False) (w.alloc (.cells #[.string x.name, .int .i64 x.kind, .string x.arg, .string x.«to», .int .i64 x.delay, .int .i64 x.tries, .slice av x.after.length cv] 32)) V) => (tell1 (HE1.out.new KV) (HR1.out.new KV) HF.out (by omega) ⟨14, x.name, ⟨#[]⟩, 0⟩ t).mono (fun e w' h => (⟨h.1, h.2.first KV⟩ : e = .returned (.tuple #[]) ∧ RGoes (w.alloc (.cells #[.string x.name, .int .i64 x.kind, .string x.arg, .string x.«to», .int .i64 x.delay, .int .i64 x.tries, .slice av x.after.length cv] 32)) H rb nm a ns.length c (tellP nm ns r ⟨14, x.name, ⟨#[]⟩, 0⟩ [t]) w'))
            clear h1 h2 h3 h4 h5 ht
            go_enter Tryd.func50, Tryd.ntmps50
            go_upto_region 12 with fail
            refine wp_onlyN (be12 (R := fun V => RGoes (w.alloc (.cells #[.string x.name, .int .i64 x.kind, .string x.arg, .string x.«to», .int .i64 x.delay, .int .i64 x.tries, .slice av x.after.length cv] 32)) H rb nm a ns.length c (tellP nm ns r ⟨14, x.name, ⟨#[]⟩, 0⟩ [t]) V) (t := t) _ n0 n2 n3 hM hT ?_)
            intro _ _ _ _ _ _ _ _ _ _ _ _ _ _ _ w9 X9
            clear n0 n1 n2 n3 n4 hM hT
            go_wp2_with fail
            go_end0
            refine ⟨rfl, ?_⟩
            rw [HW.out]
            exact X9.first HKA.out
          · have HW := hid (show beginP nm ns r x = r by unfold beginP; rw [if_neg h1, if_neg h2, if_neg h3, if_neg h4, if_neg h5])
            have e5 : (x.kind == 5) = false := by simp [h5]
            clear h1 h2 h3 h4 h5
            go_enter Tryd.func50, Tryd.ntmps50
            go_wp2_with fail
            go_end0
            refine ⟨rfl, ?_⟩
            rw [HW.out]
            exact RGoes.keep HR.out HKA.out

end Go.Proofs.YtdecceekodpjiaaDoor
