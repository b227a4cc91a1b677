import Derived.Test.YtbhlailnefappaaKh
import Derived.Test.YtbhlailnefappaaEw
import Derived.Test.YtbhlailnefappaaQq
import Derived.Test.YtbhlailnefappaaQx
import Derived.Test.YtbhlailnefappaaQm
import Derived.Test.YtbhlailnefappaaQw
import Derived.Test.YtbhlailnefappaaZl
namespace Go.Proofs.Ytbhlailnefappaa
open Go.RowKit BitX Go.MemX Go.ChV
set_option linter.unusedVariables false

theorem moS_sum (m : Int) (s : List Int) (i : Nat) : moS m s i = sumF i (at0 s) - sumF i (fun j => m * Go.ChV.moB m s j) := by
  induction i with
  | zero => simp [moS, sumF]
  | succ i ih => rw [moS_succ, sumF_succ, sumF_succ, ih]; omega
theorem sumL_tk (xs : List Int) (k : Nat) (hk : k ≤ xs.length) : sumL (xs.take k) = sumF k (at0 xs) := by
  induction k with
  | zero => rfl
  | succ k ih =>
    obtain ⟨x, hx⟩ := get_lt xs k (by omega)
    rw [sumL_step xs k x hx, ih (by omega), sumF_succ, at0_of hx]
theorem sumF_mulL (n : Nat) (f : Nat → Int) (c : Int) : sumF n (fun i => c * f i) = c * sumF n f := by
  induction n with
  | zero => simp [sumF]
  | succ n ih => rw [sumF_succ, sumF_succ, ih, Int.mul_add]
theorem sgV_mo (m : Int) (s : List Int) : sgV m s = moS m s s.length := by
  have h1 : sumL s = sumF s.length (at0 s) := by have := sumL_tk s s.length (Nat.le_refl _); rwa [List.take_length] at this
  have h2 : sumL (moBL m s) = sumF s.length (Go.ChV.moB m s) := by
    have h := sumL_tk (moBL m s) (moBL m s).length (Nat.le_refl _)
    rw [List.take_length, show (moBL m s).length = s.length from tab_len _ _] at h
    rw [h]
    exact sumF_congr _ _ _ fun i hi => at0_tab _ _ _ hi
  unfold sgV
  rw [moS_sum, h1, h2, sumF_mulL]
theorem moB_or (m : Int) (s : List Int) (i : Nat) : Go.ChV.moB m s i = 1 ∨ Go.ChV.moB m s i = -1 := biI_in _
theorem mo_bits {m : Int} {s : List Int} (hl : s.length ≤ 64) : bitB (moBL m s) = true := by
  unfold bitB
  rw [Bool.and_eq_true, List.all_eq_true]
  refine ⟨decide_eq_true (by rw [show (moBL m s).length = s.length from tab_len _ _]; omega), fun x hx => decide_eq_true ?_⟩
  unfold moBL tab at hx
  obtain ⟨i, _, rfl⟩ := List.mem_map.1 hx
  exact moB_or m s i
theorem rn_sum (bs : List Int) (i : Nat) : sumL (rnL bs i) = i := by
  induction i with
  | zero => rfl
  | succ i ih =>
    by_cases h : 0 < i ∧ at0 bs (i - 1) = at0 bs i
    · obtain ⟨ini, y, hr, _, _, _⟩ := rn_last bs i (by omega)
      rw [rn_same h hr]
      rw [hr] at ih
      simp only [sumL_append, sumL] at ih ⊢
      omega
    · rw [rn_new h]
      simp only [sumL_append, sumL]
      omega
theorem rn_in (bs : List Int) (i : Nat) : ∀ x ∈ rnL bs i, 1 ≤ x ∧ x ≤ i := by
  induction i with
  | zero => intro x hx; simp [rnL] at hx
  | succ i ih =>
    intro x hx
    by_cases h : 0 < i ∧ at0 bs (i - 1) = at0 bs i
    · obtain ⟨ini, y, hr, y1, y2, _⟩ := rn_last bs i (by omega)
      rw [rn_same h hr] at hx
      rcases List.mem_append.1 hx with hx | hx
      · have := ih x (by rw [hr]; exact List.mem_append_left _ hx); omega
      · rw [List.mem_singleton] at hx; omega
    · rw [rn_new h] at hx
      rcases List.mem_append.1 hx with hx | hx
      · have := ih x hx; omega
      · rw [List.mem_singleton] at hx; omega
theorem gv_in {m : Int} {s : List Int} (m1 : 1 ≤ m) (m2 : m ≤ 1000) (i : Nat) (hi : i ≤ 64) : -64000 ≤ sumF i (fun j => m * Go.ChV.moB m s j) ∧ sumF i (fun j => m * Go.ChV.moB m s j) ≤ 64000 := by
  have h := sumF_bound i (fun j => m * Go.ChV.moB m s j) 1000 fun j _ => by
    rcases moB_or m s j with h | h
    · rw [h]; omega
    · rw [h]; omega
  omega
theorem sv_in {m : Int} {s : List Int} (m2 : m ≤ 1000) (hs : ∀ i, -m ≤ at0 s i ∧ at0 s i ≤ m) (i : Nat) (hi : i ≤ 64) : -64000 ≤ sumF i (at0 s) ∧ sumF i (at0 s) ≤ 64000 := by
  have h := sumF_bound i (at0 s) 1000 fun j _ => by have := hs j; omega
  omega

/-- what a call leaves that draws a scale and a signal -/
def DrawsMS (g K : Nat) (w : World) (e : Ending) (w' : World) : Prop := (∃ m v xs, e = .returned (.tuple #[.int .i64 m, v]) ∧ Res 3 w.heap.size w' v xs ∧ xs.length ≤ 66 ∧ -1 ≤ m ∧ m ≤ 1001) ∧ Cur g K w' ∧ Gets g w w'
def DrawsMW (w : World) (e : Ending) (w' : World) : Prop := (∃ m v xs, e = .returned (.tuple #[.int .i64 m, v]) ∧ Res 3 w.heap.size w' v xs ∧ xs.length ≤ 66 ∧ -1 ≤ m ∧ m ≤ 1001) ∧ Below w.heap.size w w'
theorem ls_in (m : Int) : ∃ s : Nat, leastI 20 (mostI 1 m) = (s : Int) ∧ s ≤ 20 := by
  refine ⟨(leastI 20 (mostI 1 m)).toNat, ?_, ?_⟩
  · unfold leastI mostI; split <;> split <;> omega
  · unfold leastI mostI; split <;> split <;> omega

set_option maxHeartbeats 1000000 in
theorem iRows_same (u v : Value) (us vs : List Value) (xss : List (List Int)) (B C : Nat) (w : World) (hu : SSi B w u us xss) (hv : SSi C w v vs xss) (hn : xss.length ≤ 2000000) (hl : lenS xss ≤ 2000000) :
    Calls Try.prog 24 #[u, v] w fun e w' => e = .returned (.bool true) ∧ Below w.heap.size w w' := by
  obtain ⟨a, cap, rfl⟩ := hu.form
  obtain ⟨b, cap2, rfl⟩ := hv.form
  obtain ⟨n, hn0⟩ : ∃ n, n = xss.length := ⟨_, rfl⟩
  rw [← hn0] at hu hv ⊢
  have Hu := hid hu
  have Hv := hid hv
  have Hn := hid hn0
  have Hl := hid hl
  have hnn : n ≤ 2000000 := by omega
  clear hu hv hn0 hn hl
  go_enter Try.func24, Try.ntmps24
  go_wp2_with fail
  go_loopw [13] (fun i wr => ∃ j : Nat, j ≤ n ∧ i = .int .i64 j ∧ Below w.heap.size w wr)
    (fun i _ => n - (intOf i).toNat)
  case atStart => exact ⟨0, by omega, rfl, Below.refl _ _⟩
  case round =>
    obtain ⟨j, hj, rfl, hb⟩ := hrel
    by_cases hlk : j < n
    · obtain ⟨xs, hx⟩ : ∃ xs, xss[j]? = some xs := ⟨_, List.getElem?_eq_getElem (by rw [← Hn.out]; exact hlk)⟩
      obtain ⟨p, hp⟩ : ∃ p, us[j]? = some p := ⟨_, List.getElem?_eq_getElem (by rw [Hu.out.len, ← Hn.out]; exact hlk)⟩
      obtain ⟨q, hq⟩ : ∃ q, vs[j]? = some q := ⟨_, List.getElem?_eq_getElem (by rw [Hv.out.len, ← Hn.out]; exact hlk)⟩
      obtain ⟨bb, oo, hix, hbb, hce⟩ := (Hu.out.kept hb).at (P := Try.prog) (T := 36) uslice2 sone2 hp hlk
      obtain ⟨b2, o2, hix2, hbb2, hce2⟩ := (Hv.out.kept hb).at (P := Try.prog) (T := 36) uslice2 sone2 hq hlk
      have r1 := ((Hu.out.kept hb).each j p xs hp hx).sl
      have r2 := ((Hv.out.kept hb).each j q xs hq hx).sl
      have h1 := lenS_one hx
      have hl2 := Hl.out
      have Hcall := hid (fun (W : World) (h : Below wr.heap.size wr W) => iSame_same p q xs W (r1.kept h) (r2.kept h) (by omega))
      have i1 : (0 : Int) ≤ (j : Int) := by omega
      have i2 : (j : Int) < (n : Int) := by omega
      clear r1 r2 h1 hl2 hx hp hq
      go_wp2_with fail
      go_region_with (go_at_call 13; refine (Hcall.out _ (Below.refl _ _).drew).mono ?_; rintro e w2 ⟨rfl, hb2⟩; have hB := hb.trans ((bel_undrew2 hb2).mono hb.size))
      all_goals
        go_wp2
        go_roundw
        case rel => exact ⟨j + 1, by omega, by go_num, hB⟩
        case measure => simp [intOf]; omega
    · have hge : (n : Int) ≤ (j : Int) := by omega
      clear hlk
      go_wp2
      go_ret
      exact ⟨rfl, hb⟩

set_option maxHeartbeats 2000000 in
theorem scaled_any (g K : Nat) (w : World) (hc : Cur g K w) (hK : K ≤ 999970000) :
    Calls Try.prog 77 #[.pointer (some ⟨g, 0, none⟩)] w (DrawsMS g (K + 110) w) := by
  have HC0 := hid hc
  have HB0 := hid (Gets.refl g w)
  have hgl := hc.lt
  clear hc
  go_enter Try.func77, Try.ntmps77
  go_wp2_with fail
  refine (pick_any g (K) 20 _ HC0.out (by omega) (by omega) (by omega)).mono ?_
  rintro e w1 ⟨⟨r, rfl, r1, r2⟩, hc1, hb1⟩
  have HC1 := hid hc1
  have HB1 := hid (HB0.out.trans hb1)
  clear hc1 hb1
  have e1 : IntKind.i64.wrap (1 + r) = 1 + r := (w64s (by omega) (by omega)).1
  have e2 : wrap64 (1 + r) = 1 + r := (w64s (by omega) (by omega)).2
  go_wp2_with fail
  refine (one_any g (K + 2) 12 _ HC1.out (by omega) (by omega) (by omega)).mono ?_
  rintro e w2 ⟨⟨q, rfl⟩, hc2, hb2⟩
  have HC2 := hid hc2
  have HB2 := hid (HB1.out.trans hb2)
  clear hc2 hb2
  cases q
  · skip
    obtain ⟨sN, hsN, hs20⟩ := ls_in (1 + r)
    have KL := fun (W : World) => l1Least_any 20 (mostI 1 (1 + r)) W
    rw [hsN] at KL
    have KL := hid KL
    clear hsN
    go_wp2_with fail
    refine (l1Most_any 1 (1 + r) _).mono ?_
    rintro e w' ⟨rfl, rfl⟩
    go_wp2_with fail
    refine (KL.out _).mono ?_
    rintro e w' ⟨rfl, rfl⟩
    go_wp2_with fail
    refine (signal_any g (K + 2 + 2) 20 sN _ HC2.out (by omega) (by omega) (by omega)).mono ?_
    rintro e w3 ⟨⟨v, xs, rfl, hres, hxs⟩, hc3, hb3⟩
    have HR3 := hid (hres.mono (show w.heap.size ≤ w2.heap.size from HB2.out.1.size))
    have HC3 := hid hc3
    have HB3 := hid (HB2.out.trans hb3)
    clear hres hc3 hb3 KL
    go_wp2
    go_ret2
    exact ⟨⟨_, v, xs, rfl, HR3.out, hxs, by omega, by omega⟩, HC3.out.mono (by omega), HB3.out⟩
  · skip
    go_wp2_with fail
    refine (among_any g (K + 2 + 2) w2.heap.size [0, 1, 1000, 1001, (-1)] (-1) (1001) _ (HC2.out.kept (bel_alloc _ _)) (by omega) (heap_alloc_new _ _) (Nat.ne_of_gt HC2.out.lt) (by decide) (by decide) (by decide)).mono ?_
    rintro e w3 ⟨⟨m, rfl, m1, m2⟩, hc3, hb3'⟩
    have hb3 : Gets g w2 w3 := ((Gets.refl g w2).alloc HC2.out.lt (.cells (intsA [0, 1, 1000, 1001, (-1)]) 3)).trans hb3'
    clear hb3'
    have HC3 := hid hc3
    have HB3 := hid (HB2.out.trans hb3)
    clear hc3 hb3
    obtain ⟨sN, hsN, hs20⟩ := ls_in (m)
    have KL := fun (W : World) => l1Least_any 20 (mostI 1 (m)) W
    rw [hsN] at KL
    have KL := hid KL
    clear hsN
    go_wp2_with fail
    refine (l1Most_any 1 (m) _).mono ?_
    rintro e w' ⟨rfl, rfl⟩
    go_wp2_with fail
    refine (KL.out _).mono ?_
    rintro e w' ⟨rfl, rfl⟩
    go_wp2_with fail
    refine (signal_any g (K + 2 + 2 + 2) 20 sN _ HC3.out (by omega) (by omega) (by omega)).mono ?_
    rintro e w4 ⟨⟨v, xs, rfl, hres, hxs⟩, hc4, hb4⟩
    have HR4 := hid (hres.mono (show w.heap.size ≤ w3.heap.size from HB3.out.1.size))
    have HC4 := hid hc4
    have HB4 := hid (HB3.out.trans hb4)
    clear hres hc4 hb4 KL
    go_wp2
    go_ret2
    exact ⟨⟨_, v, xs, rfl, HR4.out, hxs, by omega, by omega⟩, HC4.out.mono (by omega), HB4.out⟩

set_option maxHeartbeats 2000000 in
theorem DrawIsScaled_any (a : Option Addr) (len cap : Nat) (w : World) (hb : By w.heap.size w a len) (hl : len ≤ 1048576) :
    Calls Try.prog 44 #[.slice a len cap] w (DrawsMW w) := by
  have hc0 := Cur.new (cap := cap) hb hl
  have hb0 := bel_alloc w (.cells #[.slice a len cap, .int .i64 0, .int .u64 0] 63)
  clear hb
  go_enter Try.func44, Try.ntmps44
  go_wp2_with fail
  refine (scaled_any w.heap.size 0 _ hc0 (by omega)).mono ?_
  rintro e w1 ⟨⟨m, v, xs, rfl, hres, hxs, m1, m2⟩, hc1, hb1⟩
  go_wp2
  go_ret2
  exact ⟨⟨m, v, xs, rfl, hres.mono hb0.size, hxs, m1, m2⟩, hb0.trans hb1.1⟩

theorem DrawOneBits_any (a : Option Addr) (len cap : Nat) (w : World) (hb : By w.heap.size w a len) (hl : len ≤ 1048576) :
    Calls Try.prog 6 #[.slice a len cap] w (DrawsMW w) := by
  have HB := hid hb
  clear hb
  go_enter Try.func6, Try.ntmps6
  go_wp2_with fail
  refine (DrawIsScaled_any _ _ _ _ HB.out hl).mono ?_
  rintro e w1 ⟨⟨m, v, xs, rfl, hres, hxs, m1, m2⟩, hb⟩
  go_wp2
  go_ret2
  exact ⟨⟨m, v, xs, rfl, hres, hxs, m1, m2⟩, hb⟩

theorem DrawTwoBits_any (a : Option Addr) (len cap : Nat) (w : World) (hb : By w.heap.size w a len) (hl : len ≤ 1048576) :
    Calls Try.prog 19 #[.slice a len cap] w (DrawsMW w) := by
  have HB := hid hb
  clear hb
  go_enter Try.func19, Try.ntmps19
  go_wp2_with fail
  refine (DrawIsScaled_any _ _ _ _ HB.out hl).mono ?_
  rintro e w1 ⟨⟨m, v, xs, rfl, hres, hxs, m1, m2⟩, hb⟩
  go_wp2
  go_ret2
  exact ⟨⟨m, v, xs, rfl, hres, hxs, m1, m2⟩, hb⟩

end Go.Proofs.Ytbhlailnefappaa

namespace Go.Proofs.Ytbhlailnefappaa
open Go.RowKit BitX Go.MemX Go.ChV Go.ShX
set_option linter.unusedVariables false

theorem val_i {x y : Int} (h : x = y) : Value.int .i64 x = Value.int .i64 y := by rw [h]


/-- what is left of a function's code behind its first k statements, and the statement there -/
def cRest : Nat → Code → Code
  | 0, c => c
  | k + 1, .seq _ b => cRest k b
  | _ + 1, c => c
def cHead : Nat → Code → Code
  | 0, .seq a _ => a
  | 0, c => c
  | k + 1, .seq _ b => cHead k b
  | _ + 1, c => c
def cThen : Code → Code
  | .cond _ t _ => t
  | .seq _ b => cThen b
  | c => c
def bodyOf (f : Func) : Code := f.body.getD .skip
def qS (w0 : World) : Exit → Act → World → Prop := bodyPost Try.prog Try.f3 fun e w' => e = .returned (.bool true) ∧ Below w0.heap.size w0 w'


theorem ts_get {m : Int} {t : List Int} {c : Nat} (h : c < t.length) : (tsL m t)[c]? = some [twA m t (c + 1), twB m t (c + 1)] := by
  unfold tsL
  rw [List.getElem?_map, List.getElem?_range h]
  rfl
theorem in_at0 {m : Int} {xs : List Int} (h0 : 0 ≤ m) (h : InP (-m) m xs) (i : Nat) : -m ≤ at0 xs i ∧ at0 xs i ≤ m := by
  by_cases hi : i < xs.length
  · obtain ⟨x, hx⟩ := get_lt xs i hi
    rw [at0_of hx]; exact h.at hx
  · rw [at0_out (by omega)]; omega


set_option maxRecDepth 20000 in
set_option maxHeartbeats 8000000 in
theorem bits_G (u1 u2 : Option Addr) (n1 c1 n2 c2 : Nat) (w0 w : World) (hB : Below w0.heap.size w0 w) (x2 x3 x4 x5 x6 x7 x8 x9 x10 x11 x12 x13 x14 x15 x16 x17 x18 x19 x20 x21 x22 x23 x24 x25 x26 x27 x28 x29 x30 x31 x32 x33 x34 x35 x36 x37 x38 x39 x40 x41 x42 x43 x44 x45 x46 x47 x48 x49 x50 x51 x52 x53 x54 x55 x56 x57 x58 x59 x60 x61 x62 x63 x64 x65 x66 x67 x68 x69 x70 x71 x72 x73 x74 x75 x76 x77 x78 x79 x80 x81 x82 x83 x84 x85 x86 x87 x88 x89 x90 x91 x92 x93 x94 x95 x96 x97 x98 x99 x100 x101 x102 x103 x104 x105 x106 x107 x108 x109 x110 x111 x112 x113 x114 x115 x116 x117 x118 x119 x120 x121 x122 x123 x124 x125 x126 x127 x128 x129 x130 x131 x132 x133 x134 x135 x136 x137 x138 x139 x140 x141 x142 x143 x144 x145 x146 x147 x148 x149 x150 x151 x152 x153 x154 x155 x156 x157 x158 x159 x160 x161 x162 x163 x164 x165 x166 x167 x168 x169 x170 x171 x172 x173 x174 x175 x176 x177 x178 x179 x180 x181 x182 x183 x184 x185 x186 x187 x188 x189 x190 x191 x192 x193 x194 x195 x196 x197 x198 x199 x200 x201 x202 x203 x204 x205 x206 x207 x208 x209 x210 x211 x212 x213 x214 x215 x216 x217 x218 x219 x220 x221 x222 x223 x224 x225 x226 x227 x228 x229 x230 x231 x232 x233 x234 x235 x236 x237 x238 x239 x240 x241 x242 x243 x244 x245 x246 x247 x248 x249 x250 x251 x252 x253 x254 x255 x256 x257 x258 x259 x260 x261 x262 x263 x264 x265 x266 x267 x268 x269 x270 x271 x272 x273 x274 x275 x276 x277 x278 x279 x280 x281 x282 x283 x284 x285 x286 x287 x288 x289 x290 x291 x292 x293 x294 x295 x296 x297 x298 x299 x300 x301 x302 x303 x304 x305 x306 x307 x308 x309 x310 x311 x312 x313 x314 x315 x316 x317 x318 : Value) :
    Code.wp Try.prog (cRest 18 (bodyOf Try.f3)) (qS w0) { tmps := List.toArray ((.slice u1 n1 c1) :: (.slice u2 n2 c2) :: x2 :: x3 :: x4 :: x5 :: x6 :: x7 :: x8 :: x9 :: x10 :: x11 :: x12 :: x13 :: x14 :: x15 :: x16 :: x17 :: x18 :: x19 :: x20 :: x21 :: x22 :: x23 :: x24 :: x25 :: x26 :: x27 :: x28 :: x29 :: x30 :: x31 :: x32 :: x33 :: x34 :: x35 :: x36 :: x37 :: x38 :: x39 :: x40 :: x41 :: x42 :: x43 :: x44 :: x45 :: x46 :: x47 :: x48 :: x49 :: x50 :: x51 :: x52 :: x53 :: x54 :: x55 :: x56 :: x57 :: x58 :: x59 :: x60 :: x61 :: x62 :: x63 :: x64 :: x65 :: x66 :: x67 :: x68 :: x69 :: x70 :: x71 :: x72 :: x73 :: x74 :: x75 :: x76 :: x77 :: x78 :: x79 :: x80 :: x81 :: x82 :: x83 :: x84 :: x85 :: x86 :: x87 :: x88 :: x89 :: x90 :: x91 :: x92 :: x93 :: x94 :: x95 :: x96 :: x97 :: x98 :: x99 :: x100 :: x101 :: x102 :: x103 :: x104 :: x105 :: x106 :: x107 :: x108 :: x109 :: x110 :: x111 :: x112 :: x113 :: x114 :: x115 :: x116 :: x117 :: x118 :: x119 :: x120 :: x121 :: x122 :: x123 :: x124 :: x125 :: x126 :: x127 :: x128 :: x129 :: x130 :: x131 :: x132 :: x133 :: x134 :: x135 :: x136 :: x137 :: x138 :: x139 :: x140 :: x141 :: x142 :: x143 :: x144 :: x145 :: x146 :: x147 :: x148 :: x149 :: x150 :: x151 :: x152 :: x153 :: x154 :: x155 :: x156 :: x157 :: x158 :: x159 :: x160 :: x161 :: x162 :: x163 :: x164 :: x165 :: x166 :: x167 :: x168 :: x169 :: x170 :: x171 :: x172 :: x173 :: x174 :: x175 :: x176 :: x177 :: x178 :: x179 :: x180 :: x181 :: x182 :: x183 :: x184 :: x185 :: x186 :: x187 :: x188 :: x189 :: x190 :: x191 :: x192 :: x193 :: x194 :: x195 :: x196 :: x197 :: x198 :: x199 :: x200 :: x201 :: x202 :: x203 :: x204 :: x205 :: x206 :: x207 :: x208 :: x209 :: x210 :: x211 :: x212 :: x213 :: x214 :: x215 :: x216 :: x217 :: x218 :: x219 :: x220 :: x221 :: x222 :: x223 :: x224 :: x225 :: x226 :: x227 :: x228 :: x229 :: x230 :: x231 :: x232 :: x233 :: x234 :: x235 :: x236 :: x237 :: x238 :: x239 :: x240 :: x241 :: x242 :: x243 :: x244 :: x245 :: x246 :: x247 :: x248 :: x249 :: x250 :: x251 :: x252 :: x253 :: x254 :: x255 :: x256 :: x257 :: x258 :: x259 :: x260 :: x261 :: x262 :: x263 :: x264 :: x265 :: x266 :: x267 :: x268 :: x269 :: x270 :: x271 :: x272 :: x273 :: x274 :: x275 :: x276 :: x277 :: x278 :: x279 :: x280 :: x281 :: x282 :: x283 :: x284 :: x285 :: x286 :: x287 :: x288 :: x289 :: x290 :: x291 :: x292 :: x293 :: x294 :: x295 :: x296 :: x297 :: x298 :: x299 :: x300 :: x301 :: x302 :: x303 :: x304 :: x305 :: x306 :: x307 :: x308 :: x309 :: x310 :: x311 :: x312 :: x313 :: x314 :: x315 :: x316 :: x317 :: x318 :: []), defers := [] } w := by
  simp only [bodyOf, Try.f3, Option.getD_some, cRest]
  go_wp2
  unfold qS
  go_ret
  exact ⟨rfl, hB⟩


set_option maxRecDepth 20000 in
set_option maxHeartbeats 8000000 in
theorem bits_T1 (u1 u2 : Option Addr) (n1 c1 n2 c2 : Nat) (w0 w : World) (hB : Below w0.heap.size w0 w) (KK : Act → World → Prop) (HK : Hid (∀ a w, Code.wp Try.prog (cRest 18 (bodyOf Try.f3)) (qS w0) a w → KK a w)) (m : Int) (t : List Int) (n : Nat) (m1 : 1 ≤ m) (m2 : m ≤ 1000) (hn : n ≤ 64) (Hn : Hid (n = t.length)) (Hin : Hid (∀ i, -m ≤ at0 t i ∧ at0 t i ≤ m)) (a_t a_b a_p : Option Addr) (c_t c_b c_p B : Nat) (us : List Value) (Rd_t : Hid (Rd w a_t t)) (Rd_b : Hid (Rd w a_b (twOL m t))) (HP : Hid (SSi B w (.slice a_p n c_p) us (tsL m t))) (x2 x3 x4 x5 x6 x7 x8 x9 x10 x11 x12 x13 x14 x15 x16 x17 x18 x19 x20 x21 x22 x23 x24 x28 x29 x30 x32 x33 x34 x35 x36 x37 x38 x39 x40 x41 x42 x43 x44 x45 x46 x47 x48 x49 x50 x51 x52 x53 x54 x55 x56 x57 x58 x59 x60 x61 x62 x63 x64 x65 x66 x67 x68 x69 x70 x71 x72 x73 x74 x75 x76 x77 x78 x79 x80 x81 x82 x83 x84 x85 x86 x87 x88 x89 x90 x91 x92 x93 x94 x95 x96 x97 x98 x99 x100 x101 x102 x103 x104 x105 x106 x107 x108 x109 x110 x111 x112 x113 x114 x115 x116 x117 x118 x119 x120 x121 x122 x123 x124 x125 x126 x127 x128 x129 x130 x131 x132 x133 x134 x135 x136 x137 x138 x139 x140 x141 x142 x143 x144 x145 x146 x147 x148 x149 x150 x151 x152 x153 x154 x155 x156 x157 x158 x159 x160 x161 x162 x163 x164 x165 x166 x167 x168 x169 x170 x171 x172 x173 x174 x175 x176 x177 x178 x179 x180 x181 x182 x183 x184 x185 x186 x187 x188 x189 x190 x191 x192 x193 x194 x195 x196 x197 x198 x199 x200 x201 x202 x203 x204 x205 x206 x207 x208 x209 x210 x211 x212 x213 x214 x215 x216 x217 x218 x219 x220 x221 x222 x223 x224 x225 x226 x227 x228 x229 x230 x231 x232 x233 x234 x235 x236 x237 x238 x239 x240 x241 x242 x243 x244 x245 x246 x247 x248 x249 x250 x251 x252 x253 x254 x255 x256 x257 x258 x259 x260 x261 x262 x263 x264 x265 x266 x267 x268 x269 x270 x271 x272 x273 x274 x275 x276 x277 x278 x279 x280 x281 x282 x283 x284 x285 x286 x287 x288 x289 x290 x291 x292 x293 x294 x295 x296 x297 x298 x299 x300 x301 x302 x303 x304 x305 x306 x307 x308 x309 x310 x311 x312 x313 x314 x315 x316 x317 x318 : Value) :
    Code.wp Try.prog ((cThen (cHead 17 (bodyOf Try.f3)))) (Exit.then KK (qS w0)) { tmps := List.toArray ((.slice u1 n1 c1) :: (.slice u2 n2 c2) :: x2 :: x3 :: x4 :: x5 :: x6 :: x7 :: x8 :: x9 :: x10 :: x11 :: x12 :: x13 :: x14 :: x15 :: x16 :: x17 :: x18 :: x19 :: x20 :: x21 :: x22 :: x23 :: x24 :: (.int .i64 m) :: (.slice a_t n c_t) :: (.slice a_b n c_b) :: x28 :: x29 :: x30 :: (.slice a_p n c_p) :: x32 :: x33 :: x34 :: x35 :: x36 :: x37 :: x38 :: x39 :: x40 :: x41 :: x42 :: x43 :: x44 :: x45 :: x46 :: x47 :: x48 :: x49 :: x50 :: x51 :: x52 :: x53 :: x54 :: x55 :: x56 :: x57 :: x58 :: x59 :: x60 :: x61 :: x62 :: x63 :: x64 :: x65 :: x66 :: x67 :: x68 :: x69 :: x70 :: x71 :: x72 :: x73 :: x74 :: x75 :: x76 :: x77 :: x78 :: x79 :: x80 :: x81 :: x82 :: x83 :: x84 :: x85 :: x86 :: x87 :: x88 :: x89 :: x90 :: x91 :: x92 :: x93 :: x94 :: x95 :: x96 :: x97 :: x98 :: x99 :: x100 :: x101 :: x102 :: x103 :: x104 :: x105 :: x106 :: x107 :: x108 :: x109 :: x110 :: x111 :: x112 :: x113 :: x114 :: x115 :: x116 :: x117 :: x118 :: x119 :: x120 :: x121 :: x122 :: x123 :: x124 :: x125 :: x126 :: x127 :: x128 :: x129 :: x130 :: x131 :: x132 :: x133 :: x134 :: x135 :: x136 :: x137 :: x138 :: x139 :: x140 :: x141 :: x142 :: x143 :: x144 :: x145 :: x146 :: x147 :: x148 :: x149 :: x150 :: x151 :: x152 :: x153 :: x154 :: x155 :: x156 :: x157 :: x158 :: x159 :: x160 :: x161 :: x162 :: x163 :: x164 :: x165 :: x166 :: x167 :: x168 :: x169 :: x170 :: x171 :: x172 :: x173 :: x174 :: x175 :: x176 :: x177 :: x178 :: x179 :: x180 :: x181 :: x182 :: x183 :: x184 :: x185 :: x186 :: x187 :: x188 :: x189 :: x190 :: x191 :: x192 :: x193 :: x194 :: x195 :: x196 :: x197 :: x198 :: x199 :: x200 :: x201 :: x202 :: x203 :: x204 :: x205 :: x206 :: x207 :: x208 :: x209 :: x210 :: x211 :: x212 :: x213 :: x214 :: x215 :: x216 :: x217 :: x218 :: x219 :: x220 :: x221 :: x222 :: x223 :: x224 :: x225 :: x226 :: x227 :: x228 :: x229 :: x230 :: x231 :: x232 :: x233 :: x234 :: x235 :: x236 :: x237 :: x238 :: x239 :: x240 :: x241 :: x242 :: x243 :: x244 :: x245 :: x246 :: x247 :: x248 :: x249 :: x250 :: x251 :: x252 :: x253 :: x254 :: x255 :: x256 :: x257 :: x258 :: x259 :: x260 :: x261 :: x262 :: x263 :: x264 :: x265 :: x266 :: x267 :: x268 :: x269 :: x270 :: x271 :: x272 :: x273 :: x274 :: x275 :: x276 :: x277 :: x278 :: x279 :: x280 :: x281 :: x282 :: x283 :: x284 :: x285 :: x286 :: x287 :: x288 :: x289 :: x290 :: x291 :: x292 :: x293 :: x294 :: x295 :: x296 :: x297 :: x298 :: x299 :: x300 :: x301 :: x302 :: x303 :: x304 :: x305 :: x306 :: x307 :: x308 :: x309 :: x310 :: x311 :: x312 :: x313 :: x314 :: x315 :: x316 :: x317 :: x318 :: []), defers := [] } w := by
  simp only [bodyOf, Try.f3, Option.getD_some, cHead, cThen]
  have HB := hid hB
  clear hB
  go_wp2_with fail
  go_loopw [35, 36, 282] (fun a b i wr => ∃ c : Nat, c ≤ n ∧ i = .int .i64 c ∧ a = .int .i64 (twA m t c) ∧ b = .int .i64 (twB m t c) ∧ Below w.heap.size w wr)
    (fun _ _ i _ => n - (intOf i).toNat)
  case atStart => exact ⟨0, by omega, rfl, rfl, rfl, Below.refl _ _⟩
  case round =>
    obtain ⟨c, hc, rfl, rfl, rfl, hb⟩ := hrel
    by_cases hlc : c < n
    · obtain ⟨x, hkx⟩ := get_lt t c (by rw [← Hn.out]; exact hlc)
      have hx0 : at0 t c = x := at0_of hkx
      have hko : (twOL m t)[c]? = some (twO m t c) := tab_get _ _ _ (by rw [← Hn.out]; exact hlc)
      have hkp : (tsL m t)[c]? = some [twA m t (c + 1), twB m t (c + 1)] := ts_get (by rw [← Hn.out]; exact hlc)
      obtain ⟨p, hp⟩ : ∃ p, us[c]? = some p := ⟨_, List.getElem?_eq_getElem (by rw [HP.out.len, tsL_len, ← Hn.out]; exact hlc)⟩
      obtain ⟨b6, o6, ix6, hb6, ce6⟩ := (Rd_t.out.kept hb).at (P := Try.prog) (T := 24) n c_t uslice sone hkx hlc
      obtain ⟨b7, o7, ix7, hb7, ce7⟩ := (Rd_b.out.kept hb).at (P := Try.prog) (T := 24) n c_b uslice sone hko hlc
      obtain ⟨b8, o8, ix8, hb8, ce8⟩ := (HP.out.kept hb).at (P := Try.prog) (T := 36) uslice2 sone2 hp hlc
      have hr := hid ((HP.out.kept hb).each c p _ hp hkp).sl
      obtain ⟨x1, x2⟩ := Hin.out c
      rw [hx0] at x1 x2
      obtain ⟨⟨A1a, A1b⟩, A2a, A2b⟩ := tw_in m1 m2 Hin.out c (by omega)
      obtain ⟨⟨B1a, B1b⟩, B2a, B2b⟩ := tw_in m1 m2 Hin.out (c + 1) (by omega)
      have eA : twA m t (c + 1) = twA m t c + (x - m * twO m t c) := by rw [twA_succ, hx0]
      have eB : twB m t (c + 1) = twB m t c + (twA m t (c + 1) - m * twO m t c) := twB_succ _ _ _
      have eo : twO m t c = biI (twB m t c) := rfl
      clear hkx hko hkp hp hx0
      generalize hA1 : twA m t (c + 1) = A1 at *
      generalize hB1 : twB m t (c + 1) = B1 at *
      generalize hA0 : twA m t c = A0 at *
      generalize hB0 : twB m t c = B0 at *
      generalize twO m t c = o at *
      have HA1 := hid hA1
      have HB1 := hid hB1
      have HHb := hid hb
      clear hA1 hB1 hA0 hB0 hb
      by_cases h0 : 0 ≤ B0
      · rw [biI_t h0] at eo
        subst eo
        have d0 : decide (0 ≤ B0) = true := decide_eq_true h0
        have HA := hid (show A1 = A0 + (x - m) from by rw [eA]; omega)
        have HBe := hid (show B1 = B0 + (A1 - m) from by rw [eB]; omega)
        have e1 : A0 + (x - m) = A1 := HA.out.symm
        have e2 : B0 + (A1 - m) = B1 := HBe.out.symm
        clear eA eB
        go_wp2_with fail
        refine (iSame_same _ _ [A1, B1] _ (hr.out.kept (bel_alloc _ _)) (Sl.two _ _ _ _) (by simp)).mono ?_
        rintro e w2 ⟨rfl, hb2⟩
        have hbq := HHb.out.trans ((bel_step (bel_alloc wr _) hb2).mono HHb.out.size)
        clear hb2
        go_wp2_with fail
        go_roundw
        case rel => exact ⟨c + 1, by omega, by go_num, val_i (by rw [HA1.out]), val_i (by rw [HB1.out]), hbq⟩
        case measure => simp [intOf]; omega
      · rw [biI_f (by omega)] at eo
        subst eo
        have d0 : decide (0 ≤ B0) = false := decide_eq_false h0
        have HA := hid (show A1 = A0 + (x + m) from by rw [eA]; omega)
        have HBe := hid (show B1 = B0 + (A1 + m) from by rw [eB]; omega)
        have e1 : A0 + (x + m) = A1 := HA.out.symm
        have e2 : B0 + (A1 + m) = B1 := HBe.out.symm
        clear eA eB h0
        go_wp2_with fail
        refine (iSame_same _ _ [A1, B1] _ (hr.out.kept (bel_alloc _ _)) (Sl.two _ _ _ _) (by simp)).mono ?_
        rintro e w2 ⟨rfl, hb2⟩
        have hbq := HHb.out.trans ((bel_step (bel_alloc wr _) hb2).mono HHb.out.size)
        clear hb2
        go_wp2_with fail
        go_roundw
        case rel => exact ⟨c + 1, by omega, by go_num, val_i (by rw [HA1.out]), val_i (by rw [HB1.out]), hbq⟩
        case measure => simp [intOf]; omega
    · have hge : (n : Int) ≤ (c : Int) := by omega
      have HHb := hid (bel_step HB.out hb)
      clear hlc hb
      go_wp2_with fail
      refine HK.out _ _ ?_
      exact bits_G u1 u2 n1 c1 n2 c2 w0 wr HHb.out _ _ _ _ _ _ _ _ _ _ _ _ _ _ _ _ _ _ _ _ _ _ _ _ _ _ _ _ _ _ _ _ _ _ _ _ _ _ _ _ _ _ _ _ _ _ _ _ _ _ _ _ _ _ _ _ _ _ _ _ _ _ _ _ _ _ _ _ _ _ _ _ _ _ _ _ _ _ _ _ _ _ _ _ _ _ _ _ _ _ _ _ _ _ _ _ _ _ _ _ _ _ _ _ _ _ _ _ _ _ _ _ _ _ _ _ _ _ _ _ _ _ _ _ _ _ _ _ _ _ _ _ _ _ _ _ _ _ _ _ _ _ _ _ _ _ _ _ _ _ _ _ _ _ _ _ _ _ _ _ _ _ _ _ _ _ _ _ _ _ _ _ _ _ _ _ _ _ _ _ _ _ _ _ _ _ _ _ _ _ _ _ _ _ _ _ _ _ _ _ _ _ _ _ _ _ _ _ _ _ _ _ _ _ _ _ _ _ _ _ _ _ _ _ _ _ _ _ _ _ _ _ _ _ _ _ _ _ _ _ _ _ _ _ _ _ _ _ _ _ _ _ _ _ _ _ _ _ _ _ _ _ _ _ _ _ _ _ _ _ _ _ _ _ _ _ _ _ _ _ _ _ _ _ _ _ _ _ _ _ _ _ _ _ _ _ _ _ _ _ _ _ _ _ _ _ _ _ _ _ _ _ _ _ _ _ _


set_option maxRecDepth 20000 in
set_option maxHeartbeats 8000000 in
theorem bits_T1C (u1 u2 : Option Addr) (n1 c1 n2 c2 : Nat) (w0 w : World) (hB : Below w0.heap.size w0 w) (m : Int) (t : List Int) (n : Nat) (m1 : 1 ≤ m) (m2 : m ≤ 1000) (hn : n ≤ 64) (Hn : Hid (n = t.length)) (Hin : Hid (∀ i, -m ≤ at0 t i ∧ at0 t i ≤ m)) (a_t a_b a_p : Option Addr) (c_t c_b c_p B : Nat) (us : List Value) (Rd_t : Hid (Rd w a_t t)) (Rd_b : Hid (Rd w a_b (twOL m t))) (HP : Hid (SSi B w (.slice a_p n c_p) us (tsL m t))) (x2 x3 x4 x5 x6 x7 x8 x9 x10 x11 x12 x13 x14 x15 x16 x17 x18 x19 x20 x21 x22 x23 x24 x29 x30 x32 x33 x34 x35 x36 x37 x38 x39 x40 x41 x42 x43 x44 x45 x46 x47 x48 x49 x50 x51 x52 x53 x54 x55 x56 x57 x58 x59 x60 x61 x62 x63 x64 x65 x66 x67 x68 x69 x70 x71 x72 x73 x74 x75 x76 x77 x78 x79 x80 x81 x82 x83 x84 x85 x86 x87 x88 x89 x90 x91 x92 x93 x94 x95 x96 x97 x98 x99 x100 x101 x102 x103 x104 x105 x106 x107 x108 x109 x110 x111 x112 x113 x114 x115 x116 x117 x118 x119 x120 x121 x122 x123 x124 x125 x126 x127 x128 x129 x130 x131 x132 x133 x134 x135 x136 x137 x138 x139 x140 x141 x142 x143 x144 x145 x146 x147 x148 x149 x150 x151 x152 x153 x154 x155 x156 x157 x158 x159 x160 x161 x162 x163 x164 x165 x166 x167 x168 x169 x170 x171 x172 x173 x174 x175 x176 x177 x178 x179 x180 x181 x182 x183 x184 x185 x186 x187 x188 x189 x190 x191 x192 x193 x194 x195 x196 x197 x198 x199 x200 x201 x202 x203 x204 x205 x206 x207 x208 x209 x210 x211 x212 x213 x214 x215 x216 x217 x218 x219 x220 x221 x222 x223 x224 x225 x226 x227 x228 x229 x230 x231 x232 x233 x234 x235 x236 x237 x238 x239 x240 x241 x242 x243 x244 x245 x246 x247 x248 x249 x250 x251 x252 x253 x254 x255 x256 x257 x258 x259 x260 x261 x262 x263 x264 x265 x266 x267 x268 x269 x270 x271 x272 x273 x274 x275 x276 x277 x278 x279 x280 x281 x282 x283 x284 x285 x286 x287 x288 x289 x290 x291 x292 x293 x294 x295 x296 x297 x298 x299 x300 x301 x302 x303 x304 x305 x306 x307 x308 x309 x310 x311 x312 x313 x314 x315 x316 x317 x318 : Value) :
    Code.wp Try.prog (cRest 17 (bodyOf Try.f3)) (qS w0) { tmps := List.toArray ((.slice u1 n1 c1) :: (.slice u2 n2 c2) :: x2 :: x3 :: x4 :: x5 :: x6 :: x7 :: x8 :: x9 :: x10 :: x11 :: x12 :: x13 :: x14 :: x15 :: x16 :: x17 :: x18 :: x19 :: x20 :: x21 :: x22 :: x23 :: x24 :: (.int .i64 m) :: (.slice a_t n c_t) :: (.slice a_b n c_b) :: (.bool true) :: x29 :: x30 :: (.slice a_p n c_p) :: x32 :: x33 :: x34 :: x35 :: x36 :: x37 :: x38 :: x39 :: x40 :: x41 :: x42 :: x43 :: x44 :: x45 :: x46 :: x47 :: x48 :: x49 :: x50 :: x51 :: x52 :: x53 :: x54 :: x55 :: x56 :: x57 :: x58 :: x59 :: x60 :: x61 :: x62 :: x63 :: x64 :: x65 :: x66 :: x67 :: x68 :: x69 :: x70 :: x71 :: x72 :: x73 :: x74 :: x75 :: x76 :: x77 :: x78 :: x79 :: x80 :: x81 :: x82 :: x83 :: x84 :: x85 :: x86 :: x87 :: x88 :: x89 :: x90 :: x91 :: x92 :: x93 :: x94 :: x95 :: x96 :: x97 :: x98 :: x99 :: x100 :: x101 :: x102 :: x103 :: x104 :: x105 :: x106 :: x107 :: x108 :: x109 :: x110 :: x111 :: x112 :: x113 :: x114 :: x115 :: x116 :: x117 :: x118 :: x119 :: x120 :: x121 :: x122 :: x123 :: x124 :: x125 :: x126 :: x127 :: x128 :: x129 :: x130 :: x131 :: x132 :: x133 :: x134 :: x135 :: x136 :: x137 :: x138 :: x139 :: x140 :: x141 :: x142 :: x143 :: x144 :: x145 :: x146 :: x147 :: x148 :: x149 :: x150 :: x151 :: x152 :: x153 :: x154 :: x155 :: x156 :: x157 :: x158 :: x159 :: x160 :: x161 :: x162 :: x163 :: x164 :: x165 :: x166 :: x167 :: x168 :: x169 :: x170 :: x171 :: x172 :: x173 :: x174 :: x175 :: x176 :: x177 :: x178 :: x179 :: x180 :: x181 :: x182 :: x183 :: x184 :: x185 :: x186 :: x187 :: x188 :: x189 :: x190 :: x191 :: x192 :: x193 :: x194 :: x195 :: x196 :: x197 :: x198 :: x199 :: x200 :: x201 :: x202 :: x203 :: x204 :: x205 :: x206 :: x207 :: x208 :: x209 :: x210 :: x211 :: x212 :: x213 :: x214 :: x215 :: x216 :: x217 :: x218 :: x219 :: x220 :: x221 :: x222 :: x223 :: x224 :: x225 :: x226 :: x227 :: x228 :: x229 :: x230 :: x231 :: x232 :: x233 :: x234 :: x235 :: x236 :: x237 :: x238 :: x239 :: x240 :: x241 :: x242 :: x243 :: x244 :: x245 :: x246 :: x247 :: x248 :: x249 :: x250 :: x251 :: x252 :: x253 :: x254 :: x255 :: x256 :: x257 :: x258 :: x259 :: x260 :: x261 :: x262 :: x263 :: x264 :: x265 :: x266 :: x267 :: x268 :: x269 :: x270 :: x271 :: x272 :: x273 :: x274 :: x275 :: x276 :: x277 :: x278 :: x279 :: x280 :: x281 :: x282 :: x283 :: x284 :: x285 :: x286 :: x287 :: x288 :: x289 :: x290 :: x291 :: x292 :: x293 :: x294 :: x295 :: x296 :: x297 :: x298 :: x299 :: x300 :: x301 :: x302 :: x303 :: x304 :: x305 :: x306 :: x307 :: x308 :: x309 :: x310 :: x311 :: x312 :: x313 :: x314 :: x315 :: x316 :: x317 :: x318 :: []), defers := [] } w := by
  rw [show cRest 17 (bodyOf Try.f3) = .seq (cHead 17 (bodyOf Try.f3)) (cRest 18 (bodyOf Try.f3)) from by kernel_rfl]
  refine wp_seq_k ?_
  intro KK hK
  have HK := hid hK
  clear hK
  rw [show cHead 17 (bodyOf Try.f3) = .seq (cHead 0 (cHead 17 (bodyOf Try.f3))) (.cond (Operand.tmp 279) (cThen (cHead 17 (bodyOf Try.f3))) .skip) from by kernel_rfl]
  generalize hT : (cThen (cHead 17 (bodyOf Try.f3))) = TV
  have HT := hid hT
  clear hT
  simp only [bodyOf, Try.f3, Option.getD_some, cHead]
  have HB := hid hB
  clear hB
  go_wp2_with fail
  rw [← HT.out]
  exact bits_T1 u1 u2 n1 c1 n2 c2 w0 w HB.out KK HK m t n m1 m2 hn Hn Hin a_t a_b a_p c_t c_b c_p B us Rd_t Rd_b HP _ _ _ _ _ _ _ _ _ _ _ _ _ _ _ _ _ _ _ _ _ _ _ _ _ _ _ _ _ _ _ _ _ _ _ _ _ _ _ _ _ _ _ _ _ _ _ _ _ _ _ _ _ _ _ _ _ _ _ _ _ _ _ _ _ _ _ _ _ _ _ _ _ _ _ _ _ _ _ _ _ _ _ _ _ _ _ _ _ _ _ _ _ _ _ _ _ _ _ _ _ _ _ _ _ _ _ _ _ _ _ _ _ _ _ _ _ _ _ _ _ _ _ _ _ _ _ _ _ _ _ _ _ _ _ _ _ _ _ _ _ _ _ _ _ _ _ _ _ _ _ _ _ _ _ _ _ _ _ _ _ _ _ _ _ _ _ _ _ _ _ _ _ _ _ _ _ _ _ _ _ _ _ _ _ _ _ _ _ _ _ _ _ _ _ _ _ _ _ _ _ _ _ _ _ _ _ _ _ _ _ _ _ _ _ _ _ _ _ _ _ _ _ _ _ _ _ _ _ _ _ _ _ _ _ _ _ _ _ _ _ _ _ _ _ _ _ _ _ _ _ _ _ _ _ _ _ _ _ _ _ _ _ _ _ _ _ _ _ _ _ _ _ _ _ _ _ _ _ _ _ _ _ _ _ _ _ _ _ _ _ _ _ _ _ _ _ _ _ _ _ _ _ _ _ _ _ _ _ _ _ _ _


set_option maxRecDepth 20000 in
set_option maxHeartbeats 8000000 in
theorem bits_T1N (u1 u2 : Option Addr) (n1 c1 n2 c2 : Nat) (w0 w : World) (hB : Below w0.heap.size w0 w) (x2 x3 x4 x5 x6 x7 x8 x9 x10 x11 x12 x13 x14 x15 x16 x17 x18 x19 x20 x21 x22 x23 x24 x25 x26 x27 x29 x30 x31 x32 x33 x34 x35 x36 x37 x38 x39 x40 x41 x42 x43 x44 x45 x46 x47 x48 x49 x50 x51 x52 x53 x54 x55 x56 x57 x58 x59 x60 x61 x62 x63 x64 x65 x66 x67 x68 x69 x70 x71 x72 x73 x74 x75 x76 x77 x78 x79 x80 x81 x82 x83 x84 x85 x86 x87 x88 x89 x90 x91 x92 x93 x94 x95 x96 x97 x98 x99 x100 x101 x102 x103 x104 x105 x106 x107 x108 x109 x110 x111 x112 x113 x114 x115 x116 x117 x118 x119 x120 x121 x122 x123 x124 x125 x126 x127 x128 x129 x130 x131 x132 x133 x134 x135 x136 x137 x138 x139 x140 x141 x142 x143 x144 x145 x146 x147 x148 x149 x150 x151 x152 x153 x154 x155 x156 x157 x158 x159 x160 x161 x162 x163 x164 x165 x166 x167 x168 x169 x170 x171 x172 x173 x174 x175 x176 x177 x178 x179 x180 x181 x182 x183 x184 x185 x186 x187 x188 x189 x190 x191 x192 x193 x194 x195 x196 x197 x198 x199 x200 x201 x202 x203 x204 x205 x206 x207 x208 x209 x210 x211 x212 x213 x214 x215 x216 x217 x218 x219 x220 x221 x222 x223 x224 x225 x226 x227 x228 x229 x230 x231 x232 x233 x234 x235 x236 x237 x238 x239 x240 x241 x242 x243 x244 x245 x246 x247 x248 x249 x250 x251 x252 x253 x254 x255 x256 x257 x258 x259 x260 x261 x262 x263 x264 x265 x266 x267 x268 x269 x270 x271 x272 x273 x274 x275 x276 x277 x278 x279 x280 x281 x282 x283 x284 x285 x286 x287 x288 x289 x290 x291 x292 x293 x294 x295 x296 x297 x298 x299 x300 x301 x302 x303 x304 x305 x306 x307 x308 x309 x310 x311 x312 x313 x314 x315 x316 x317 x318 : Value) :
    Code.wp Try.prog (cRest 17 (bodyOf Try.f3)) (qS w0) { tmps := List.toArray ((.slice u1 n1 c1) :: (.slice u2 n2 c2) :: x2 :: x3 :: x4 :: x5 :: x6 :: x7 :: x8 :: x9 :: x10 :: x11 :: x12 :: x13 :: x14 :: x15 :: x16 :: x17 :: x18 :: x19 :: x20 :: x21 :: x22 :: x23 :: x24 :: x25 :: x26 :: x27 :: (.bool false) :: x29 :: x30 :: x31 :: x32 :: x33 :: x34 :: x35 :: x36 :: x37 :: x38 :: x39 :: x40 :: x41 :: x42 :: x43 :: x44 :: x45 :: x46 :: x47 :: x48 :: x49 :: x50 :: x51 :: x52 :: x53 :: x54 :: x55 :: x56 :: x57 :: x58 :: x59 :: x60 :: x61 :: x62 :: x63 :: x64 :: x65 :: x66 :: x67 :: x68 :: x69 :: x70 :: x71 :: x72 :: x73 :: x74 :: x75 :: x76 :: x77 :: x78 :: x79 :: x80 :: x81 :: x82 :: x83 :: x84 :: x85 :: x86 :: x87 :: x88 :: x89 :: x90 :: x91 :: x92 :: x93 :: x94 :: x95 :: x96 :: x97 :: x98 :: x99 :: x100 :: x101 :: x102 :: x103 :: x104 :: x105 :: x106 :: x107 :: x108 :: x109 :: x110 :: x111 :: x112 :: x113 :: x114 :: x115 :: x116 :: x117 :: x118 :: x119 :: x120 :: x121 :: x122 :: x123 :: x124 :: x125 :: x126 :: x127 :: x128 :: x129 :: x130 :: x131 :: x132 :: x133 :: x134 :: x135 :: x136 :: x137 :: x138 :: x139 :: x140 :: x141 :: x142 :: x143 :: x144 :: x145 :: x146 :: x147 :: x148 :: x149 :: x150 :: x151 :: x152 :: x153 :: x154 :: x155 :: x156 :: x157 :: x158 :: x159 :: x160 :: x161 :: x162 :: x163 :: x164 :: x165 :: x166 :: x167 :: x168 :: x169 :: x170 :: x171 :: x172 :: x173 :: x174 :: x175 :: x176 :: x177 :: x178 :: x179 :: x180 :: x181 :: x182 :: x183 :: x184 :: x185 :: x186 :: x187 :: x188 :: x189 :: x190 :: x191 :: x192 :: x193 :: x194 :: x195 :: x196 :: x197 :: x198 :: x199 :: x200 :: x201 :: x202 :: x203 :: x204 :: x205 :: x206 :: x207 :: x208 :: x209 :: x210 :: x211 :: x212 :: x213 :: x214 :: x215 :: x216 :: x217 :: x218 :: x219 :: x220 :: x221 :: x222 :: x223 :: x224 :: x225 :: x226 :: x227 :: x228 :: x229 :: x230 :: x231 :: x232 :: x233 :: x234 :: x235 :: x236 :: x237 :: x238 :: x239 :: x240 :: x241 :: x242 :: x243 :: x244 :: x245 :: x246 :: x247 :: x248 :: x249 :: x250 :: x251 :: x252 :: x253 :: x254 :: x255 :: x256 :: x257 :: x258 :: x259 :: x260 :: x261 :: x262 :: x263 :: x264 :: x265 :: x266 :: x267 :: x268 :: x269 :: x270 :: x271 :: x272 :: x273 :: x274 :: x275 :: x276 :: x277 :: x278 :: x279 :: x280 :: x281 :: x282 :: x283 :: x284 :: x285 :: x286 :: x287 :: x288 :: x289 :: x290 :: x291 :: x292 :: x293 :: x294 :: x295 :: x296 :: x297 :: x298 :: x299 :: x300 :: x301 :: x302 :: x303 :: x304 :: x305 :: x306 :: x307 :: x308 :: x309 :: x310 :: x311 :: x312 :: x313 :: x314 :: x315 :: x316 :: x317 :: x318 :: []), defers := [] } w := by
  rw [show cRest 17 (bodyOf Try.f3) = .seq (cHead 17 (bodyOf Try.f3)) (cRest 18 (bodyOf Try.f3)) from by kernel_rfl]
  generalize hR : cRest 18 (bodyOf Try.f3) = R
  have HR := hid hR
  clear hR
  simp only [bodyOf, Try.f3, Option.getD_some, cHead]
  have HB := hid hB
  clear hB
  go_wp2_with fail
  rw [← HR.out]
  exact bits_G u1 u2 n1 c1 n2 c2 w0 w HB.out _ _ _ _ _ _ _ _ _ _ _ _ _ _ _ _ _ _ _ _ _ _ _ _ _ _ _ _ _ _ _ _ _ _ _ _ _ _ _ _ _ _ _ _ _ _ _ _ _ _ _ _ _ _ _ _ _ _ _ _ _ _ _ _ _ _ _ _ _ _ _ _ _ _ _ _ _ _ _ _ _ _ _ _ _ _ _ _ _ _ _ _ _ _ _ _ _ _ _ _ _ _ _ _ _ _ _ _ _ _ _ _ _ _ _ _ _ _ _ _ _ _ _ _ _ _ _ _ _ _ _ _ _ _ _ _ _ _ _ _ _ _ _ _ _ _ _ _ _ _ _ _ _ _ _ _ _ _ _ _ _ _ _ _ _ _ _ _ _ _ _ _ _ _ _ _ _ _ _ _ _ _ _ _ _ _ _ _ _ _ _ _ _ _ _ _ _ _ _ _ _ _ _ _ _ _ _ _ _ _ _ _ _ _ _ _ _ _ _ _ _ _ _ _ _ _ _ _ _ _ _ _ _ _ _ _ _ _ _ _ _ _ _ _ _ _ _ _ _ _ _ _ _ _ _ _ _ _ _ _ _ _ _ _ _ _ _ _ _ _ _ _ _ _ _ _ _ _ _ _ _ _ _ _ _ _ _ _ _ _ _ _ _ _ _ _ _ _ _ _ _ _ _ _ _ _ _ _ _ _ _ _ _ _ _ _ _


set_option maxRecDepth 20000 in
set_option maxHeartbeats 8000000 in
theorem bits_D (u1 u2 : Option Addr) (n1 c1 n2 c2 : Nat) (w0 w : World) (hB : Below w0.heap.size w0 w) (hby : By w.heap.size w u2 n2) (hl2 : n2 ≤ 1048576) (x2 x3 x4 x5 x6 x7 x8 x9 x10 x11 x12 x13 x14 x15 x16 x17 x18 x19 x20 x21 x22 x23 x24 x25 x26 x27 x28 x29 x30 x31 x32 x33 x34 x35 x36 x37 x38 x39 x40 x41 x42 x43 x44 x45 x46 x47 x48 x49 x50 x51 x52 x53 x54 x55 x56 x57 x58 x59 x60 x61 x62 x63 x64 x65 x66 x67 x68 x69 x70 x71 x72 x73 x74 x75 x76 x77 x78 x79 x80 x81 x82 x83 x84 x85 x86 x87 x88 x89 x90 x91 x92 x93 x94 x95 x96 x97 x98 x99 x100 x101 x102 x103 x104 x105 x106 x107 x108 x109 x110 x111 x112 x113 x114 x115 x116 x117 x118 x119 x120 x121 x122 x123 x124 x125 x126 x127 x128 x129 x130 x131 x132 x133 x134 x135 x136 x137 x138 x139 x140 x141 x142 x143 x144 x145 x146 x147 x148 x149 x150 x151 x152 x153 x154 x155 x156 x157 x158 x159 x160 x161 x162 x163 x164 x165 x166 x167 x168 x169 x170 x171 x172 x173 x174 x175 x176 x177 x178 x179 x180 x181 x182 x183 x184 x185 x186 x187 x188 x189 x190 x191 x192 x193 x194 x195 x196 x197 x198 x199 x200 x201 x202 x203 x204 x205 x206 x207 x208 x209 x210 x211 x212 x213 x214 x215 x216 x217 x218 x219 x220 x221 x222 x223 x224 x225 x226 x227 x228 x229 x230 x231 x232 x233 x234 x235 x236 x237 x238 x239 x240 x241 x242 x243 x244 x245 x246 x247 x248 x249 x250 x251 x252 x253 x254 x255 x256 x257 x258 x259 x260 x261 x262 x263 x264 x265 x266 x267 x268 x269 x270 x271 x272 x273 x274 x275 x276 x277 x278 x279 x280 x281 x282 x283 x284 x285 x286 x287 x288 x289 x290 x291 x292 x293 x294 x295 x296 x297 x298 x299 x300 x301 x302 x303 x304 x305 x306 x307 x308 x309 x310 x311 x312 x313 x314 x315 x316 x317 x318 : Value) :
    Code.wp Try.prog (cRest 11 (bodyOf Try.f3)) (qS w0) { tmps := List.toArray ((.slice u1 n1 c1) :: (.slice u2 n2 c2) :: x2 :: x3 :: x4 :: x5 :: x6 :: x7 :: x8 :: x9 :: x10 :: x11 :: x12 :: x13 :: x14 :: x15 :: x16 :: x17 :: x18 :: x19 :: x20 :: x21 :: x22 :: x23 :: x24 :: x25 :: x26 :: x27 :: x28 :: x29 :: x30 :: x31 :: x32 :: x33 :: x34 :: x35 :: x36 :: x37 :: x38 :: x39 :: x40 :: x41 :: x42 :: x43 :: x44 :: x45 :: x46 :: x47 :: x48 :: x49 :: x50 :: x51 :: x52 :: x53 :: x54 :: x55 :: x56 :: x57 :: x58 :: x59 :: x60 :: x61 :: x62 :: x63 :: x64 :: x65 :: x66 :: x67 :: x68 :: x69 :: x70 :: x71 :: x72 :: x73 :: x74 :: x75 :: x76 :: x77 :: x78 :: x79 :: x80 :: x81 :: x82 :: x83 :: x84 :: x85 :: x86 :: x87 :: x88 :: x89 :: x90 :: x91 :: x92 :: x93 :: x94 :: x95 :: x96 :: x97 :: x98 :: x99 :: x100 :: x101 :: x102 :: x103 :: x104 :: x105 :: x106 :: x107 :: x108 :: x109 :: x110 :: x111 :: x112 :: x113 :: x114 :: x115 :: x116 :: x117 :: x118 :: x119 :: x120 :: x121 :: x122 :: x123 :: x124 :: x125 :: x126 :: x127 :: x128 :: x129 :: x130 :: x131 :: x132 :: x133 :: x134 :: x135 :: x136 :: x137 :: x138 :: x139 :: x140 :: x141 :: x142 :: x143 :: x144 :: x145 :: x146 :: x147 :: x148 :: x149 :: x150 :: x151 :: x152 :: x153 :: x154 :: x155 :: x156 :: x157 :: x158 :: x159 :: x160 :: x161 :: x162 :: x163 :: x164 :: x165 :: x166 :: x167 :: x168 :: x169 :: x170 :: x171 :: x172 :: x173 :: x174 :: x175 :: x176 :: x177 :: x178 :: x179 :: x180 :: x181 :: x182 :: x183 :: x184 :: x185 :: x186 :: x187 :: x188 :: x189 :: x190 :: x191 :: x192 :: x193 :: x194 :: x195 :: x196 :: x197 :: x198 :: x199 :: x200 :: x201 :: x202 :: x203 :: x204 :: x205 :: x206 :: x207 :: x208 :: x209 :: x210 :: x211 :: x212 :: x213 :: x214 :: x215 :: x216 :: x217 :: x218 :: x219 :: x220 :: x221 :: x222 :: x223 :: x224 :: x225 :: x226 :: x227 :: x228 :: x229 :: x230 :: x231 :: x232 :: x233 :: x234 :: x235 :: x236 :: x237 :: x238 :: x239 :: x240 :: x241 :: x242 :: x243 :: x244 :: x245 :: x246 :: x247 :: x248 :: x249 :: x250 :: x251 :: x252 :: x253 :: x254 :: x255 :: x256 :: x257 :: x258 :: x259 :: x260 :: x261 :: x262 :: x263 :: x264 :: x265 :: x266 :: x267 :: x268 :: x269 :: x270 :: x271 :: x272 :: x273 :: x274 :: x275 :: x276 :: x277 :: x278 :: x279 :: x280 :: x281 :: x282 :: x283 :: x284 :: x285 :: x286 :: x287 :: x288 :: x289 :: x290 :: x291 :: x292 :: x293 :: x294 :: x295 :: x296 :: x297 :: x298 :: x299 :: x300 :: x301 :: x302 :: x303 :: x304 :: x305 :: x306 :: x307 :: x308 :: x309 :: x310 :: x311 :: x312 :: x313 :: x314 :: x315 :: x316 :: x317 :: x318 :: []), defers := [] } w := by
  rw [show cRest 11 (bodyOf Try.f3) = .seq (cHead 11 (bodyOf Try.f3)) (.seq (cHead 12 (bodyOf Try.f3)) (.seq (cHead 13 (bodyOf Try.f3)) (.seq (cHead 14 (bodyOf Try.f3)) (.seq (cHead 15 (bodyOf Try.f3)) (.seq (cHead 16 (bodyOf Try.f3)) (cRest 17 (bodyOf Try.f3))))))) from by kernel_rfl]
  generalize hR : cRest 17 (bodyOf Try.f3) = R
  have HR := hid hR
  clear hR
  simp only [bodyOf, Try.f3, Option.getD_some, cHead]
  have HB := hid hB
  have HBY := hid hby
  clear hB hby
  go_wp2_with fail
  refine (DrawTwoBits_any u2 n2 c2 _ HBY.out hl2).mono ?_
  rintro e w1 ⟨⟨m, v_t, t, rfl, r_t, htl, m1, m2⟩, hb⟩
  obtain ⟨a_t, n, c_t, rfl, hn, -⟩ := id r_t.sl.rd
  have HB := hid (bel_step HB.out hb)
  have HR_t := hid r_t
  have Hn := hid hn
  clear hb r_t hn HBY
  obtain ⟨q, hq⟩ : ∃ z, z = sdB m t := ⟨_, rfl⟩
  obtain ⟨X, hX⟩ : ∃ z, z = tbR m t := ⟨_, rfl⟩
  obtain ⟨Y, hY⟩ : ∃ z, z = ytR m t := ⟨_, rfl⟩
  have lX : X.length ≤ 2000000 := by rw [hX]; exact tbR_len m t (by omega)
  have lY := yt_len m t
  rw [← hY] at lY
  have KXi := fun (W : World) (v : Value) (h : Sl W v t) => impl_TwoBits_is m v t W h
  have KXs := fun (W : World) (v : Value) (h : Sl W v t) => spec_TwoBits_is m v t W h
  have KYi := fun (W : World) (v : Value) (h : Sl W v t) => impl_TwoStates_is m v t W h
  have KYs := fun (W : World) (v : Value) (h : Sl W v t) => spec_TwoStates_is m v t W h
  rw [← hq, ← hX] at KXi KXs
  rw [← hq, ← hY] at KYi KYs
  have KXi := hid KXi
  have KXs := hid KXs
  have KYi := hid KYi
  have KYs := hid KYs
  have Hq := hid hq
  clear hq
  have HX := hid hX
  clear hX
  have HY := hid hY
  clear hY
  go_wp2_with fail
  refine (KXi.out _ _ HR_t.out.sl).mono ?_
  rintro e w2 ⟨v_Xi, rfl, r_Xi, hb⟩
  have HB := hid (bel_step HB.out hb)
  have HR_t := hid (HR_t.out.kept hb)
  have HR_Xi := hid r_Xi
  clear hb r_Xi
  go_wp2_with fail
  refine (KXs.out _ _ HR_t.out.sl).mono ?_
  rintro e w3 ⟨v_Xs, rfl, r_Xs, hb⟩
  have HB := hid (bel_step HB.out hb)
  have HR_t := hid (HR_t.out.kept hb)
  have HR_Xi := hid (HR_Xi.out.kept hb)
  have HR_Xs := hid r_Xs
  clear hb r_Xs
  go_wp2_with fail
  refine (KYi.out _ _ HR_t.out.sl).mono ?_
  rintro e w4 ⟨v_Yi, us_i, rfl, r_Yi, hb⟩
  have HB := hid (bel_step HB.out hb)
  have HR_t := hid (HR_t.out.kept hb)
  have HR_Xi := hid (HR_Xi.out.kept hb)
  have HR_Xs := hid (HR_Xs.out.kept hb)
  have HR_Yi := hid r_Yi
  clear hb r_Yi
  go_wp2_with fail
  refine (KYs.out _ _ HR_t.out.sl).mono ?_
  rintro e w5 ⟨v_Ys, us_s, rfl, r_Ys, hb⟩
  have HB := hid (bel_step HB.out hb)
  have HR_t := hid (HR_t.out.kept hb)
  have HR_Xi := hid (HR_Xi.out.kept hb)
  have HR_Xs := hid (HR_Xs.out.kept hb)
  have HR_Yi := hid (HR_Yi.out.kept hb)
  have HR_Ys := hid r_Ys
  clear hb r_Ys
  clear KXi KXs KYi KYs
  cases q
  all_goals
    go_wp2_with fail
    refine (iSame_same _ _ X _ HR_Xi.out.sl HR_Xs.out.sl lX).mono ?_
    rintro e w6 ⟨rfl, hb⟩
    have HB := hid (bel_step HB.out hb)
    have HR_t := hid (HR_t.out.kept hb)
    have HR_Xi := hid (HR_Xi.out.kept hb)
    have HR_Xs := hid (HR_Xs.out.kept hb)
    have HR_Yi := hid (HR_Yi.out.kept hb)
    have HR_Ys := hid (HR_Ys.out.kept hb)
    clear hb
    go_wp2_with fail
    refine (iRows_same _ _ us_i us_s Y _ _ _ HR_Yi.out HR_Ys.out lY.1 lY.2).mono ?_
    rintro e w7 ⟨rfl, hb⟩
    have HB := hid (bel_step HB.out hb)
    have HR_t := hid (HR_t.out.kept hb)
    have HR_Xi := hid (HR_Xi.out.kept hb)
    have HR_Xs := hid (HR_Xs.out.kept hb)
    have HR_Yi := hid (HR_Yi.out.kept hb)
    have HR_Ys := hid (HR_Ys.out.kept hb)
    clear hb
  · go_wp2_with fail
    rw [← HR.out]
    exact bits_T1N u1 u2 n1 c1 n2 c2 w0 w7 HB.out _ _ _ _ _ _ _ _ _ _ _ _ _ _ _ _ _ _ _ _ _ _ _ _ _ _ _ _ _ _ _ _ _ _ _ _ _ _ _ _ _ _ _ _ _ _ _ _ _ _ _ _ _ _ _ _ _ _ _ _ _ _ _ _ _ _ _ _ _ _ _ _ _ _ _ _ _ _ _ _ _ _ _ _ _ _ _ _ _ _ _ _ _ _ _ _ _ _ _ _ _ _ _ _ _ _ _ _ _ _ _ _ _ _ _ _ _ _ _ _ _ _ _ _ _ _ _ _ _ _ _ _ _ _ _ _ _ _ _ _ _ _ _ _ _ _ _ _ _ _ _ _ _ _ _ _ _ _ _ _ _ _ _ _ _ _ _ _ _ _ _ _ _ _ _ _ _ _ _ _ _ _ _ _ _ _ _ _ _ _ _ _ _ _ _ _ _ _ _ _ _ _ _ _ _ _ _ _ _ _ _ _ _ _ _ _ _ _ _ _ _ _ _ _ _ _ _ _ _ _ _ _ _ _ _ _ _ _ _ _ _ _ _ _ _ _ _ _ _ _ _ _ _ _ _ _ _ _ _ _ _ _ _ _ _ _ _ _ _ _ _ _ _ _ _ _ _ _ _ _ _ _ _ _ _ _ _ _ _ _ _ _ _ _ _ _ _ _ _ _ _ _ _ _ _ _ _ _ _ _ _ _ _ _ _ _
  · go_wp2_with fail
    rw [← HR.out]
    have hsd := sdB_t Hq.out.symm
    obtain ⟨hm, hsg, hin⟩ := hsd
    have hX2 : X = twOL m t := by rw [HX.out]; unfold tbR; rw [← Hq.out]; rfl
    have hY2 : Y = tsL m t := by rw [HY.out]; unfold ytR; rw [← Hq.out]
    have hnl : n = t.length := Hn.out
    obtain ⟨_, _, _, ev, _, rd_t⟩ := HR_t.out.sl.rd
    cases ev
    have sX := HR_Xi.out.sl
    rw [hX2] at sX
    obtain ⟨a_b, nb, c_b, rfl, hnb, rd_b⟩ := sX.rd
    obtain rfl : n = nb := by rw [hnb, hnl]; exact (tab_len _ _).symm
    have sY := HR_Yi.out
    rw [hY2] at sY
    obtain ⟨a_p, c_p, rfl⟩ := sY.form
    have hlp : (tsL m t).length = n := by rw [tsL_len, hnl]
    rw [hlp] at sY ⊢
    exact bits_T1C u1 u2 n1 c1 n2 c2 w0 w7 HB.out m t n hm.1 hm.2 (by rw [hnl]; exact hsg.1) Hn (hid (in_at0 (by omega) hin)) a_t a_b a_p c_t c_b c_p _ us_i (hid rd_t) (hid rd_b) (hid sY) _ _ _ _ _ _ _ _ _ _ _ _ _ _ _ _ _ _ _ _ _ _ _ _ _ _ _ _ _ _ _ _ _ _ _ _ _ _ _ _ _ _ _ _ _ _ _ _ _ _ _ _ _ _ _ _ _ _ _ _ _ _ _ _ _ _ _ _ _ _ _ _ _ _ _ _ _ _ _ _ _ _ _ _ _ _ _ _ _ _ _ _ _ _ _ _ _ _ _ _ _ _ _ _ _ _ _ _ _ _ _ _ _ _ _ _ _ _ _ _ _ _ _ _ _ _ _ _ _ _ _ _ _ _ _ _ _ _ _ _ _ _ _ _ _ _ _ _ _ _ _ _ _ _ _ _ _ _ _ _ _ _ _ _ _ _ _ _ _ _ _ _ _ _ _ _ _ _ _ _ _ _ _ _ _ _ _ _ _ _ _ _ _ _ _ _ _ _ _ _ _ _ _ _ _ _ _ _ _ _ _ _ _ _ _ _ _ _ _ _ _ _ _ _ _ _ _ _ _ _ _ _ _ _ _ _ _ _ _ _ _ _ _ _ _ _ _ _ _ _ _ _ _ _ _ _ _ _ _ _ _ _ _ _ _ _ _ _ _ _ _ _ _ _ _ _ _ _ _ _ _ _ _ _ _ _ _ _ _ _ _ _ _ _ _ _ _ _ _ _ _ _ _ _ _ _ _ _ _ _ _ _

end Go.Proofs.Ytbhlailnefappaa

