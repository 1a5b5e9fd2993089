/-
  beginChild: a node that asks for a workflow begins.
-/
import Derived.Test.YtdecceekodpjiaaDoorHBeg3
import Derived.Test.YtdecceekodpjiaaDoorHWait
namespace Go.Proofs.YtdecceekodpjiaaDoor
open Go.RowKit

def longB : ByteArray := ⟨#[108, 111, 110, 103]⟩

def askP (nm : ByteArray) (ns : List Nd) (r : Rn) (x : Nd) : Rn :=
  if 256 < r.st.id.size + 1 + x.name.size then breakP nm ns r x.name longB
  else tellP nm ns r ⟨9, x.name, ⟨#[]⟩, 0⟩ [msgP r.st.id ⟨1, childP r.st.id x.name, ⟨#[]⟩, x.name, x.arg, ⟨#[]⟩, 0⟩]

theorem flat_new (w : World) (t : Tk) : FlatAt (w.alloc (.cells #[.int .i64 t.kind, .complex .f64 0 0, .string t.flow, .string t.node, .int .i64 t.tr, .int .i64 t.tm, .int .i64 t.mail.kind, .string t.mail.dst, .string t.mail.src, .string t.mail.node, .string t.mail.name, .string t.mail.text, .int .i64 t.mail.status] 50)) 13 (.slice (some ⟨w.heap.size, 0, none⟩) [t].length 1) [t].length (tkF [t]) := by
  refine ⟨rfl, _, 1, rfl, Nat.le_refl _, by unfold maxLen; decide, .inr ⟨w.heap.size, 0, rfl, fun j u hu => ?_⟩⟩
  have h := heap_alloc_new w (.cells #[.int .i64 t.kind, .complex .f64 0 0, .string t.flow, .string t.node, .int .i64 t.tr, .int .i64 t.tm, .int .i64 t.mail.kind, .string t.mail.dst, .string t.mail.src, .string t.mail.node, .string t.mail.name, .string t.mail.text, .int .i64 t.mail.status] 50)
  have h2 : (#[.int .i64 t.kind, .complex .f64 0 0, .string t.flow, .string t.node, .int .i64 t.tr, .int .i64 t.tm, .int .i64 t.mail.kind, .string t.mail.dst, .string t.mail.src, .string t.mail.node, .string t.mail.name, .string t.mail.text, .int .i64 t.mail.status] : Array Value) = (tkF [t]).toArray := rfl
  rw [h2] at h ⊢
  rw [Nat.zero_add]
  unfold World.cell?
  rw [h]
  simpa using hu

set_option maxRecDepth 100000 in
set_option maxHeartbeats 8000000 in
theorem beginChild_any {w0 w : World} {H : Nat → Prop} {rb : Nat} {nm : ByteArray} {a : Option Addr} {c : Nat} {ns : List Nd} {r : Rn} {m : Nat} (E : Env w0 w H a ns) (R : RAt w H rb nm a ns.length c r) (F : Fit r m) (hm : m ≤ 999999) (hn : ns.length ≤ 999999) (x : Nd) (hx : x.name.size ≤ 100000000) (av : Option Addr) (an cv : Nat) :
    Calls Tryd.prog 63 #[.pointer (some ⟨rb, 0, none⟩), .agg #[.string x.name, .int .i64 x.kind, .string x.arg, .string x.«to», .int .i64 x.delay, .int .i64 x.tries, .slice av an cv]] w fun e w' => e = .returned (.tuple #[]) ∧ RGoes w H rb nm a ns.length c (askP nm ns r x) w' := by
  have KA : Kept (fun _ => False) w (w.alloc (.cells #[.string x.name, .int .i64 x.kind, .string x.arg, .string x.«to», .int .i64 x.delay, .int .i64 x.tries, .slice av an cv] 32)) := Kept.alloc _ _ _
  have hA := heap_alloc_new w (.cells #[.string x.name, .int .i64 x.kind, .string x.arg, .string x.«to», .int .i64 x.delay, .int .i64 x.tries, .slice av an cv] 32)
  obtain ⟨n0, _, n2, _, _⟩ := sevenC hA
  have R1 := R.new KA
  have E1 := E.new KA
  have HKA := hid KA
  have htop := R.opened
  obtain ⟨_, _, _, _, _, _, _, _, _, htop⟩ := htop
  have Ht := hid htop
  clear KA hA R E htop
  have hid1 := F.idsz
  obtain ⟨v6, v7, v12, v13, hb, hn6, hn7, _, _, _⟩ := R1.opened
  obtain ⟨_, _, _, x3, _⟩ := runCells hb
  have w1 : IntKind.i64.wrap ((r.st.id.size : Int) + 1) = (r.st.id.size : Int) + 1 := by rw [IntKind.wrap_i64]; omega
  have w2 : IntKind.i64.wrap ((r.st.id.size : Int) + 1 + (x.name.size : Int)) = (r.st.id.size : Int) + 1 + (x.name.size : Int) := by rw [IntKind.wrap_i64]; omega
  have HE1 := hid E1
  have HR1 := hid R1
  have HF := hid F
  clear hb hn6 hn7 E1 R1
  by_cases hlong : 256 < r.st.id.size + 1 + x.name.size
  · have e0 : (256 : Int) < (r.st.id.size : Int) + 1 + (x.name.size : Int) := by omega
    have HW := hid (show askP nm ns r x = breakP nm ns r x.name longB by unfold askP; rw [if_pos hlong])
    have hB := fun V (KV : Kept (fun _ => False) (w.alloc (.cells #[.string x.name, .int .i64 x.kind, .string x.arg, .string x.«to», .int .i64 x.delay, .int .i64 x.tries, .slice av an cv] 32)) V) => breakAt_any (HE1.out.new KV) (HR1.out.new KV) HF.out hm hn x.name longB
    unfold longB at hB
    clear hlong
    go_enter Tryd.func63, Tryd.ntmps63
    go_wp2_with (first
      | (go_at_call 41; refine (hB _ (Kept.drewN _ _ _)).mono ?_; rintro e w9 ⟨rfl, X9⟩; clear hB)
      | go_quiet (fail) | fail)
    (try simp only [Exit.inBlock, Exit.then]); refine bodyPost_ret (results_none rfl _ _ _) rfl ?_
    refine ⟨rfl, ?_⟩
    rw [HW.out]
    exact X9.first (HKA.out.and (Kept.drewN _ _ _))
  · have e0 : ¬ ((256 : Int) < (r.st.id.size : Int) + 1 + (x.name.size : Int)) := by omega
    have HW := hid (show askP nm ns r x = tellP nm ns r ⟨9, x.name, ⟨#[]⟩, 0⟩ [msgP r.st.id ⟨1, childP r.st.id x.name, ⟨#[]⟩, x.name, x.arg, ⟨#[]⟩, 0⟩] by unfold askP; rw [if_neg hlong])
    clear hlong
    go_enter Tryd.func63, Tryd.ntmps63
    go_upto_region 3 with (first | go_quiet (fail) | fail)
    have KN := Kept.drewN (fun _ => False) (w.alloc (.cells #[.string x.name, .int .i64 x.kind, .string x.arg, .string x.«to», .int .i64 x.delay, .int .i64 x.tries, .slice av an cv] 32)) nq
    have m0 := keepC KN n0 (fun _ _ h => h)
    have m2 := keepC KN n2 (fun _ _ h => h)
    have E3 := HE1.out.new KN
    have R3 := HR1.out.new KN
    have K3 := HKA.out.and KN
    clear n0 n2 x3 HE1 HR1 KN HKA
    generalize (w.alloc (.cells #[.string x.name, .int .i64 x.kind, .string x.arg, .string x.«to», .int .i64 x.delay, .int .i64 x.tries, .slice av an cv] 32)).drewN nq = W at *
    obtain ⟨t, ht⟩ : ∃ t, t = msgP r.st.id ⟨1, childP r.st.id x.name, ⟨#[]⟩, x.name, x.arg, ⟨#[]⟩, 0⟩ := ⟨_, rfl⟩
    rw [← ht] at HW
    refine wp_onlyN (bc3 (t := t) (x := x.name) (y := childP r.st.id x.name) (arg := x.arg) _ m0 m2 (fun V KV => childName_any V H rb nm a _ c r (R3.new ((Kept.drew _ _).and KV)) x.name (by omega)) (fun V KV => by rw [ht]; exact message_any V H rb nm a _ c r (R3.new ((Kept.drew _ _).and KV)) ⟨1, childP r.st.id x.name, ⟨#[]⟩, x.name, x.arg, ⟨#[]⟩, 0⟩) ?_)
    intro _ _ _ _ _ _ _ _ _ _ _ mb w5 _ hM5 K5
    have n5 := keepC K5 m0 (fun _ _ h => h)
    obtain ⟨d0, d1, d2, d3, d4, d5, d6, d7, d8, d9, d10, d11, d12⟩ := thirteen hM5
    have K6 : Kept (fun _ => False) w5 (w5.alloc (.cells #[.int .i64 t.kind, .complex .f64 0 0, .string t.flow, .string t.node, .int .i64 t.tr, .int .i64 t.tm, .int .i64 t.mail.kind, .string t.mail.dst, .string t.mail.src, .string t.mail.node, .string t.mail.name, .string t.mail.text, .int .i64 t.mail.status] 50)) := Kept.alloc _ _ _
    have hzw : w.heap.size ≤ w5.heap.size := Nat.le_trans K3.size K5.size
    have hT := tellE ((E3.new K5).new K6) ((R3.new K5).new K6) F (by omega) ⟨9, x.name, ⟨#[]⟩, 0⟩ [t] _ 1 (flat_new w5 t) (by simp) (fun g hg hh => by
      obtain rfl : w5.heap.size = g := by simpa [slBlk] using hg
      exact absurd (Ht.out _ hh) (Nat.not_lt.2 hzw))
    rw [show [t].length = 1 from rfl] at hT
    have HK6 := hid ((K3.and K5).and K6)
    clear m0 m2 E3 R3 K3 K5 K6 hM5 ht
    go_wp2_with (first
      | (go_at_call 34; refine hT.mono ?_; rintro e w9 ⟨rfl, X9⟩; clear hT)
      | fail)
    go_end0
    refine ⟨rfl, ?_⟩
    rw [HW.out]
    exact X9.first HK6.out

end Go.Proofs.YtdecceekodpjiaaDoor
