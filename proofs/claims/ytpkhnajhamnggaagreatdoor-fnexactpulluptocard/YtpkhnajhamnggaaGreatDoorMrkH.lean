/- heldEntryS of the laws at a slice of entries that are marked: what is marked is held. No condition. -/
import Derived.Test.YtpkhnajhamnggaaGreatDoorMrkE
namespace Go.Proofs.YtpkhnajhamnggaaGreatDoor
open Go.ChangeShapes Go.WideShapes Go.ChangeAt Go.RowKit
set_option maxRecDepth 100000

theorem wide462 (A : Array Value) (s0 s1 s5 : Value) (h : A.size = 462) (h0 : A.getD 0 undef = s0) (h1 : A.getD 1 undef = s1) (h5 : A.getD 5 undef = s5) : A = #[s0, s1, A.getD 2 undef, A.getD 3 undef, A.getD 4 undef, s5, A.getD 6 undef, A.getD 7 undef, A.getD 8 undef, A.getD 9 undef, A.getD 10 undef, A.getD 11 undef, A.getD 12 undef, A.getD 13 undef, A.getD 14 undef, A.getD 15 undef, A.getD 16 undef, A.getD 17 undef, A.getD 18 undef, A.getD 19 undef, A.getD 20 undef, A.getD 21 undef, A.getD 22 undef, A.getD 23 undef, A.getD 24 undef, A.getD 25 undef, A.getD 26 undef, A.getD 27 undef, A.getD 28 undef, A.getD 29 undef, A.getD 30 undef, A.getD 31 undef, A.getD 32 undef, A.getD 33 undef, A.getD 34 undef, A.getD 35 undef, A.getD 36 undef, A.getD 37 undef, A.getD 38 undef, A.getD 39 undef, A.getD 40 undef, A.getD 41 undef, A.getD 42 undef, A.getD 43 undef, A.getD 44 undef, A.getD 45 undef, A.getD 46 undef, A.getD 47 undef, A.getD 48 undef, A.getD 49 undef, A.getD 50 undef, A.getD 51 undef, A.getD 52 undef, A.getD 53 undef, A.getD 54 undef, A.getD 55 undef, A.getD 56 undef, A.getD 57 undef, A.getD 58 undef, A.getD 59 undef, A.getD 60 undef, A.getD 61 undef, A.getD 62 undef, A.getD 63 undef, A.getD 64 undef, A.getD 65 undef, A.getD 66 undef, A.getD 67 undef, A.getD 68 undef, A.getD 69 undef, A.getD 70 undef, A.getD 71 undef, A.getD 72 undef, A.getD 73 undef, A.getD 74 undef, A.getD 75 undef, A.getD 76 undef, A.getD 77 undef, A.getD 78 undef, A.getD 79 undef, A.getD 80 undef, A.getD 81 undef, A.getD 82 undef, A.getD 83 undef, A.getD 84 undef, A.getD 85 undef, A.getD 86 undef, A.getD 87 undef, A.getD 88 undef, A.getD 89 undef, A.getD 90 undef, A.getD 91 undef, A.getD 92 undef, A.getD 93 undef, A.getD 94 undef, A.getD 95 undef, A.getD 96 undef, A.getD 97 undef, A.getD 98 undef, A.getD 99 undef, A.getD 100 undef, A.getD 101 undef, A.getD 102 undef, A.getD 103 undef, A.getD 104 undef, A.getD 105 undef, A.getD 106 undef, A.getD 107 undef, A.getD 108 undef, A.getD 109 undef, A.getD 110 undef, A.getD 111 undef, A.getD 112 undef, A.getD 113 undef, A.getD 114 undef, A.getD 115 undef, A.getD 116 undef, A.getD 117 undef, A.getD 118 undef, A.getD 119 undef, A.getD 120 undef, A.getD 121 undef, A.getD 122 undef, A.getD 123 undef, A.getD 124 undef, A.getD 125 undef, A.getD 126 undef, A.getD 127 undef, A.getD 128 undef, A.getD 129 undef, A.getD 130 undef, A.getD 131 undef, A.getD 132 undef, A.getD 133 undef, A.getD 134 undef, A.getD 135 undef, A.getD 136 undef, A.getD 137 undef, A.getD 138 undef, A.getD 139 undef, A.getD 140 undef, A.getD 141 undef, A.getD 142 undef, A.getD 143 undef, A.getD 144 undef, A.getD 145 undef, A.getD 146 undef, A.getD 147 undef, A.getD 148 undef, A.getD 149 undef, A.getD 150 undef, A.getD 151 undef, A.getD 152 undef, A.getD 153 undef, A.getD 154 undef, A.getD 155 undef, A.getD 156 undef, A.getD 157 undef, A.getD 158 undef, A.getD 159 undef, A.getD 160 undef, A.getD 161 undef, A.getD 162 undef, A.getD 163 undef, A.getD 164 undef, A.getD 165 undef, A.getD 166 undef, A.getD 167 undef, A.getD 168 undef, A.getD 169 undef, A.getD 170 undef, A.getD 171 undef, A.getD 172 undef, A.getD 173 undef, A.getD 174 undef, A.getD 175 undef, A.getD 176 undef, A.getD 177 undef, A.getD 178 undef, A.getD 179 undef, A.getD 180 undef, A.getD 181 undef, A.getD 182 undef, A.getD 183 undef, A.getD 184 undef, A.getD 185 undef, A.getD 186 undef, A.getD 187 undef, A.getD 188 undef, A.getD 189 undef, A.getD 190 undef, A.getD 191 undef, A.getD 192 undef, A.getD 193 undef, A.getD 194 undef, A.getD 195 undef, A.getD 196 undef, A.getD 197 undef, A.getD 198 undef, A.getD 199 undef, A.getD 200 undef, A.getD 201 undef, A.getD 202 undef, A.getD 203 undef, A.getD 204 undef, A.getD 205 undef, A.getD 206 undef, A.getD 207 undef, A.getD 208 undef, A.getD 209 undef, A.getD 210 undef, A.getD 211 undef, A.getD 212 undef, A.getD 213 undef, A.getD 214 undef, A.getD 215 undef, A.getD 216 undef, A.getD 217 undef, A.getD 218 undef, A.getD 219 undef, A.getD 220 undef, A.getD 221 undef, A.getD 222 undef, A.getD 223 undef, A.getD 224 undef, A.getD 225 undef, A.getD 226 undef, A.getD 227 undef, A.getD 228 undef, A.getD 229 undef, A.getD 230 undef, A.getD 231 undef, A.getD 232 undef, A.getD 233 undef, A.getD 234 undef, A.getD 235 undef, A.getD 236 undef, A.getD 237 undef, A.getD 238 undef, A.getD 239 undef, A.getD 240 undef, A.getD 241 undef, A.getD 242 undef, A.getD 243 undef, A.getD 244 undef, A.getD 245 undef, A.getD 246 undef, A.getD 247 undef, A.getD 248 undef, A.getD 249 undef, A.getD 250 undef, A.getD 251 undef, A.getD 252 undef, A.getD 253 undef, A.getD 254 undef, A.getD 255 undef, A.getD 256 undef, A.getD 257 undef, A.getD 258 undef, A.getD 259 undef, A.getD 260 undef, A.getD 261 undef, A.getD 262 undef, A.getD 263 undef, A.getD 264 undef, A.getD 265 undef, A.getD 266 undef, A.getD 267 undef, A.getD 268 undef, A.getD 269 undef, A.getD 270 undef, A.getD 271 undef, A.getD 272 undef, A.getD 273 undef, A.getD 274 undef, A.getD 275 undef, A.getD 276 undef, A.getD 277 undef, A.getD 278 undef, A.getD 279 undef, A.getD 280 undef, A.getD 281 undef, A.getD 282 undef, A.getD 283 undef, A.getD 284 undef, A.getD 285 undef, A.getD 286 undef, A.getD 287 undef, A.getD 288 undef, A.getD 289 undef, A.getD 290 undef, A.getD 291 undef, A.getD 292 undef, A.getD 293 undef, A.getD 294 undef, A.getD 295 undef, A.getD 296 undef, A.getD 297 undef, A.getD 298 undef, A.getD 299 undef, A.getD 300 undef, A.getD 301 undef, A.getD 302 undef, A.getD 303 undef, A.getD 304 undef, A.getD 305 undef, A.getD 306 undef, A.getD 307 undef, A.getD 308 undef, A.getD 309 undef, A.getD 310 undef, A.getD 311 undef, A.getD 312 undef, A.getD 313 undef, A.getD 314 undef, A.getD 315 undef, A.getD 316 undef, A.getD 317 undef, A.getD 318 undef, A.getD 319 undef, A.getD 320 undef, A.getD 321 undef, A.getD 322 undef, A.getD 323 undef, A.getD 324 undef, A.getD 325 undef, A.getD 326 undef, A.getD 327 undef, A.getD 328 undef, A.getD 329 undef, A.getD 330 undef, A.getD 331 undef, A.getD 332 undef, A.getD 333 undef, A.getD 334 undef, A.getD 335 undef, A.getD 336 undef, A.getD 337 undef, A.getD 338 undef, A.getD 339 undef, A.getD 340 undef, A.getD 341 undef, A.getD 342 undef, A.getD 343 undef, A.getD 344 undef, A.getD 345 undef, A.getD 346 undef, A.getD 347 undef, A.getD 348 undef, A.getD 349 undef, A.getD 350 undef, A.getD 351 undef, A.getD 352 undef, A.getD 353 undef, A.getD 354 undef, A.getD 355 undef, A.getD 356 undef, A.getD 357 undef, A.getD 358 undef, A.getD 359 undef, A.getD 360 undef, A.getD 361 undef, A.getD 362 undef, A.getD 363 undef, A.getD 364 undef, A.getD 365 undef, A.getD 366 undef, A.getD 367 undef, A.getD 368 undef, A.getD 369 undef, A.getD 370 undef, A.getD 371 undef, A.getD 372 undef, A.getD 373 undef, A.getD 374 undef, A.getD 375 undef, A.getD 376 undef, A.getD 377 undef, A.getD 378 undef, A.getD 379 undef, A.getD 380 undef, A.getD 381 undef, A.getD 382 undef, A.getD 383 undef, A.getD 384 undef, A.getD 385 undef, A.getD 386 undef, A.getD 387 undef, A.getD 388 undef, A.getD 389 undef, A.getD 390 undef, A.getD 391 undef, A.getD 392 undef, A.getD 393 undef, A.getD 394 undef, A.getD 395 undef, A.getD 396 undef, A.getD 397 undef, A.getD 398 undef, A.getD 399 undef, A.getD 400 undef, A.getD 401 undef, A.getD 402 undef, A.getD 403 undef, A.getD 404 undef, A.getD 405 undef, A.getD 406 undef, A.getD 407 undef, A.getD 408 undef, A.getD 409 undef, A.getD 410 undef, A.getD 411 undef, A.getD 412 undef, A.getD 413 undef, A.getD 414 undef, A.getD 415 undef, A.getD 416 undef, A.getD 417 undef, A.getD 418 undef, A.getD 419 undef, A.getD 420 undef, A.getD 421 undef, A.getD 422 undef, A.getD 423 undef, A.getD 424 undef, A.getD 425 undef, A.getD 426 undef, A.getD 427 undef, A.getD 428 undef, A.getD 429 undef, A.getD 430 undef, A.getD 431 undef, A.getD 432 undef, A.getD 433 undef, A.getD 434 undef, A.getD 435 undef, A.getD 436 undef, A.getD 437 undef, A.getD 438 undef, A.getD 439 undef, A.getD 440 undef, A.getD 441 undef, A.getD 442 undef, A.getD 443 undef, A.getD 444 undef, A.getD 445 undef, A.getD 446 undef, A.getD 447 undef, A.getD 448 undef, A.getD 449 undef, A.getD 450 undef, A.getD 451 undef, A.getD 452 undef, A.getD 453 undef, A.getD 454 undef, A.getD 455 undef, A.getD 456 undef, A.getD 457 undef, A.getD 458 undef, A.getD 459 undef, A.getD 460 undef, A.getD 461 undef] := by
  subst h0 h1 h5
  exact (wide_range A 462 h).trans (by kernel_rfl)

set_option maxHeartbeats 4000000 in
theorem heldE_own (a : Option Addr) (len cap : Nat) (k0 : Int) (h0 : 1 ≤ k0) (h1 : k0 ≤ 33554432) (w : World) (hl : len ≤ 1048576) (hS : SliceV 40 enl w.heap.size w a len (marksE k0 len)) :
    Calls Tryz.prog 69 #[.slice a len cap, .int .i64 k0] w fun e w' => e = .returned (.int .i64 (k0 + 40 * (len : Int))) ∧ Below w.heap.size w w' := by
  have S := hid_mk hS
  clear hS
  go_enter Tryz.func69, Tryz.ntmps69
  go_wp2
  refine wp_loop (fun a' w' => ∃ k : Nat, k ≤ len ∧ a'.tmps.size = 462 ∧ a'.tmps.getD 0 undef = .slice a len cap ∧ a'.tmps.getD 1 undef = .int .i64 (k0 + 40 * (k : Int)) ∧ a'.tmps.getD 5 undef = .int .i64 (k : Int) ∧ a' = ⟨a'.tmps, []⟩ ∧ Hid (Below w.heap.size w w')) (fun a' _ => len - (intOf (a'.tmps.getD 5 undef)).toNat) ?_ ?_
  · exact ⟨0, Nat.zero_le _, rfl, rfl, by simp, rfl, rfl, hid_mk (Below.refl _ _)⟩
  · intro a' wr hinv
    obtain ⟨k, hk, s, t0, t1, t5, ha, B⟩ := hinv
    rw [ha]
    generalize a'.tmps = A at s t0 t1 t5
    clear ha a'
    show Code.wp _ _ (Exit.then (fun a'' w'' => _ ∧ len - (intOf (a''.tmps.getD 5 undef)).toNat < len - (intOf (A.getD 5 undef)).toNat) _) _ _
    rw [t5]
    rw [wide462 A _ _ _ s t0 t1 t5]
    by_cases hlt : k < len
    · obtain ⟨kb, ob, x, rfl, hkb, hx, hat⟩ := (S.out.keep B.out).at hlt
      rw [marksE_at hlt] at hx
      obtain rfl := Option.some.inj hx
      obtain ⟨m0, hm0⟩ : ∃ m : Int, m = k0 + 40 * (k : Int) := ⟨_, rfl⟩
      rw [← hm0] at hat ⊢
      have bb0 : 1 ≤ m0 := by omega
      have bc0 : m0 ≤ 134217728 := by omega
      have HM := hid_mk hm0
      clear hm0 hx t0 t1 t5 s
      obtain ⟨m1, hm⟩ : ∃ x : Int, m0 + 1 = x := ⟨_, rfl⟩
      have H1 := hid_mk hm
      have BB1 : Hid (1 ≤ m1) := hid_mk (by have := bb0; omega)
      have BC1 : Hid (m1 ≤ 134217728 + 1) := hid_mk (by have := bc0; omega)
      clear hm
      obtain ⟨m2, hm⟩ : ∃ x : Int, m1 + 1 = x := ⟨_, rfl⟩
      have H2 := hid_mk hm
      have BB2 : Hid (1 ≤ m2) := hid_mk (by have := BB1.out; omega)
      have BC2 : Hid (m2 ≤ 134217728 + 2) := hid_mk (by have := BC1.out; omega)
      clear hm
      obtain ⟨m3, hm⟩ : ∃ x : Int, m2 + 1 = x := ⟨_, rfl⟩
      have H3 := hid_mk hm
      have BB3 : Hid (1 ≤ m3) := hid_mk (by have := BB2.out; omega)
      have BC3 : Hid (m3 ≤ 134217728 + 3) := hid_mk (by have := BC2.out; omega)
      clear hm
      obtain ⟨m4, hm⟩ : ∃ x : Int, m3 + 1 = x := ⟨_, rfl⟩
      have H4 := hid_mk hm
      have BB4 : Hid (1 ≤ m4) := hid_mk (by have := BB3.out; omega)
      have BC4 : Hid (m4 ≤ 134217728 + 4) := hid_mk (by have := BC3.out; omega)
      clear hm
      obtain ⟨m5, hm⟩ : ∃ x : Int, m4 + 1 = x := ⟨_, rfl⟩
      have H5 := hid_mk hm
      have BB5 : Hid (1 ≤ m5) := hid_mk (by have := BB4.out; omega)
      have BC5 : Hid (m5 ≤ 134217728 + 5) := hid_mk (by have := BC4.out; omega)
      clear hm
      obtain ⟨m6, hm⟩ : ∃ x : Int, m5 + 1 = x := ⟨_, rfl⟩
      have H6 := hid_mk hm
      have BB6 : Hid (1 ≤ m6) := hid_mk (by have := BB5.out; omega)
      have BC6 : Hid (m6 ≤ 134217728 + 6) := hid_mk (by have := BC5.out; omega)
      clear hm
      obtain ⟨m7, hm⟩ : ∃ x : Int, m6 + 1 = x := ⟨_, rfl⟩
      have H7 := hid_mk hm
      have BB7 : Hid (1 ≤ m7) := hid_mk (by have := BB6.out; omega)
      have BC7 : Hid (m7 ≤ 134217728 + 7) := hid_mk (by have := BC6.out; omega)
      clear hm
      obtain ⟨m8, hm⟩ : ∃ x : Int, m7 + 1 = x := ⟨_, rfl⟩
      have H8 := hid_mk hm
      have BB8 : Hid (1 ≤ m8) := hid_mk (by have := BB7.out; omega)
      have BC8 : Hid (m8 ≤ 134217728 + 8) := hid_mk (by have := BC7.out; omega)
      clear hm
      obtain ⟨m9, hm⟩ : ∃ x : Int, m8 + 1 = x := ⟨_, rfl⟩
      have H9 := hid_mk hm
      have BB9 : Hid (1 ≤ m9) := hid_mk (by have := BB8.out; omega)
      have BC9 : Hid (m9 ≤ 134217728 + 9) := hid_mk (by have := BC8.out; omega)
      clear hm
      obtain ⟨m10, hm⟩ : ∃ x : Int, m9 + 1 = x := ⟨_, rfl⟩
      have H10 := hid_mk hm
      have BB10 : Hid (1 ≤ m10) := hid_mk (by have := BB9.out; omega)
      have BC10 : Hid (m10 ≤ 134217728 + 10) := hid_mk (by have := BC9.out; omega)
      clear hm
      obtain ⟨m11, hm⟩ : ∃ x : Int, m10 + 1 = x := ⟨_, rfl⟩
      have H11 := hid_mk hm
      have BB11 : Hid (1 ≤ m11) := hid_mk (by have := BB10.out; omega)
      have BC11 : Hid (m11 ≤ 134217728 + 11) := hid_mk (by have := BC10.out; omega)
      clear hm
      obtain ⟨m12, hm⟩ : ∃ x : Int, m11 + 1 = x := ⟨_, rfl⟩
      have H12 := hid_mk hm
      have BB12 : Hid (1 ≤ m12) := hid_mk (by have := BB11.out; omega)
      have BC12 : Hid (m12 ≤ 134217728 + 12) := hid_mk (by have := BC11.out; omega)
      clear hm
      obtain ⟨m13, hm⟩ : ∃ x : Int, m12 + 1 = x := ⟨_, rfl⟩
      have H13 := hid_mk hm
      have BB13 : Hid (1 ≤ m13) := hid_mk (by have := BB12.out; omega)
      have BC13 : Hid (m13 ≤ 134217728 + 13) := hid_mk (by have := BC12.out; omega)
      clear hm
      obtain ⟨m14, hm⟩ : ∃ x : Int, m13 + 1 = x := ⟨_, rfl⟩
      have H14 := hid_mk hm
      have BB14 : Hid (1 ≤ m14) := hid_mk (by have := BB13.out; omega)
      have BC14 : Hid (m14 ≤ 134217728 + 14) := hid_mk (by have := BC13.out; omega)
      clear hm
      obtain ⟨m15, hm⟩ : ∃ x : Int, m14 + 1 = x := ⟨_, rfl⟩
      have H15 := hid_mk hm
      have BB15 : Hid (1 ≤ m15) := hid_mk (by have := BB14.out; omega)
      have BC15 : Hid (m15 ≤ 134217728 + 15) := hid_mk (by have := BC14.out; omega)
      clear hm
      obtain ⟨m16, hm⟩ : ∃ x : Int, m15 + 1 = x := ⟨_, rfl⟩
      have H16 := hid_mk hm
      have BB16 : Hid (1 ≤ m16) := hid_mk (by have := BB15.out; omega)
      have BC16 : Hid (m16 ≤ 134217728 + 16) := hid_mk (by have := BC15.out; omega)
      clear hm
      obtain ⟨m17, hm⟩ : ∃ x : Int, m16 + 1 = x := ⟨_, rfl⟩
      have H17 := hid_mk hm
      have BB17 : Hid (1 ≤ m17) := hid_mk (by have := BB16.out; omega)
      have BC17 : Hid (m17 ≤ 134217728 + 17) := hid_mk (by have := BC16.out; omega)
      clear hm
      obtain ⟨m18, hm⟩ : ∃ x : Int, m17 + 1 = x := ⟨_, rfl⟩
      have H18 := hid_mk hm
      have BB18 : Hid (1 ≤ m18) := hid_mk (by have := BB17.out; omega)
      have BC18 : Hid (m18 ≤ 134217728 + 18) := hid_mk (by have := BC17.out; omega)
      clear hm
      obtain ⟨m19, hm⟩ : ∃ x : Int, m18 + 1 = x := ⟨_, rfl⟩
      have H19 := hid_mk hm
      have BB19 : Hid (1 ≤ m19) := hid_mk (by have := BB18.out; omega)
      have BC19 : Hid (m19 ≤ 134217728 + 19) := hid_mk (by have := BC18.out; omega)
      clear hm
      obtain ⟨m20, hm⟩ : ∃ x : Int, m19 + 1 = x := ⟨_, rfl⟩
      have H20 := hid_mk hm
      have BB20 : Hid (1 ≤ m20) := hid_mk (by have := BB19.out; omega)
      have BC20 : Hid (m20 ≤ 134217728 + 20) := hid_mk (by have := BC19.out; omega)
      clear hm
      obtain ⟨m21, hm⟩ : ∃ x : Int, m20 + 1 = x := ⟨_, rfl⟩
      have H21 := hid_mk hm
      have BB21 : Hid (1 ≤ m21) := hid_mk (by have := BB20.out; omega)
      have BC21 : Hid (m21 ≤ 134217728 + 21) := hid_mk (by have := BC20.out; omega)
      clear hm
      obtain ⟨m22, hm⟩ : ∃ x : Int, m21 + 1 = x := ⟨_, rfl⟩
      have H22 := hid_mk hm
      have BB22 : Hid (1 ≤ m22) := hid_mk (by have := BB21.out; omega)
      have BC22 : Hid (m22 ≤ 134217728 + 22) := hid_mk (by have := BC21.out; omega)
      clear hm
      obtain ⟨m23, hm⟩ : ∃ x : Int, m22 + 1 = x := ⟨_, rfl⟩
      have H23 := hid_mk hm
      have BB23 : Hid (1 ≤ m23) := hid_mk (by have := BB22.out; omega)
      have BC23 : Hid (m23 ≤ 134217728 + 23) := hid_mk (by have := BC22.out; omega)
      clear hm
      obtain ⟨m24, hm⟩ : ∃ x : Int, m23 + 1 = x := ⟨_, rfl⟩
      have H24 := hid_mk hm
      have BB24 : Hid (1 ≤ m24) := hid_mk (by have := BB23.out; omega)
      have BC24 : Hid (m24 ≤ 134217728 + 24) := hid_mk (by have := BC23.out; omega)
      clear hm
      obtain ⟨m25, hm⟩ : ∃ x : Int, m24 + 1 = x := ⟨_, rfl⟩
      have H25 := hid_mk hm
      have BB25 : Hid (1 ≤ m25) := hid_mk (by have := BB24.out; omega)
      have BC25 : Hid (m25 ≤ 134217728 + 25) := hid_mk (by have := BC24.out; omega)
      clear hm
      obtain ⟨m26, hm⟩ : ∃ x : Int, m25 + 1 = x := ⟨_, rfl⟩
      have H26 := hid_mk hm
      have BB26 : Hid (1 ≤ m26) := hid_mk (by have := BB25.out; omega)
      have BC26 : Hid (m26 ≤ 134217728 + 26) := hid_mk (by have := BC25.out; omega)
      clear hm
      obtain ⟨m27, hm⟩ : ∃ x : Int, m26 + 1 = x := ⟨_, rfl⟩
      have H27 := hid_mk hm
      have BB27 : Hid (1 ≤ m27) := hid_mk (by have := BB26.out; omega)
      have BC27 : Hid (m27 ≤ 134217728 + 27) := hid_mk (by have := BC26.out; omega)
      clear hm
      obtain ⟨m28, hm⟩ : ∃ x : Int, m27 + 1 = x := ⟨_, rfl⟩
      have H28 := hid_mk hm
      have BB28 : Hid (1 ≤ m28) := hid_mk (by have := BB27.out; omega)
      have BC28 : Hid (m28 ≤ 134217728 + 28) := hid_mk (by have := BC27.out; omega)
      clear hm
      obtain ⟨m29, hm⟩ : ∃ x : Int, m28 + 1 = x := ⟨_, rfl⟩
      have H29 := hid_mk hm
      have BB29 : Hid (1 ≤ m29) := hid_mk (by have := BB28.out; omega)
      have BC29 : Hid (m29 ≤ 134217728 + 29) := hid_mk (by have := BC28.out; omega)
      clear hm
      obtain ⟨m30, hm⟩ : ∃ x : Int, m29 + 1 = x := ⟨_, rfl⟩
      have H30 := hid_mk hm
      have BB30 : Hid (1 ≤ m30) := hid_mk (by have := BB29.out; omega)
      have BC30 : Hid (m30 ≤ 134217728 + 30) := hid_mk (by have := BC29.out; omega)
      clear hm
      obtain ⟨m31, hm⟩ : ∃ x : Int, m30 + 1 = x := ⟨_, rfl⟩
      have H31 := hid_mk hm
      have BB31 : Hid (1 ≤ m31) := hid_mk (by have := BB30.out; omega)
      have BC31 : Hid (m31 ≤ 134217728 + 31) := hid_mk (by have := BC30.out; omega)
      clear hm
      obtain ⟨m32, hm⟩ : ∃ x : Int, m31 + 1 = x := ⟨_, rfl⟩
      have H32 := hid_mk hm
      have BB32 : Hid (1 ≤ m32) := hid_mk (by have := BB31.out; omega)
      have BC32 : Hid (m32 ≤ 134217728 + 32) := hid_mk (by have := BC31.out; omega)
      clear hm
      obtain ⟨m33, hm⟩ : ∃ x : Int, m32 + 1 = x := ⟨_, rfl⟩
      have H33 := hid_mk hm
      have BB33 : Hid (1 ≤ m33) := hid_mk (by have := BB32.out; omega)
      have BC33 : Hid (m33 ≤ 134217728 + 33) := hid_mk (by have := BC32.out; omega)
      clear hm
      obtain ⟨m34, hm⟩ : ∃ x : Int, m33 + 1 = x := ⟨_, rfl⟩
      have H34 := hid_mk hm
      have BB34 : Hid (1 ≤ m34) := hid_mk (by have := BB33.out; omega)
      have BC34 : Hid (m34 ≤ 134217728 + 34) := hid_mk (by have := BC33.out; omega)
      clear hm
      obtain ⟨m35, hm⟩ : ∃ x : Int, m34 + 1 = x := ⟨_, rfl⟩
      have H35 := hid_mk hm
      have BB35 : Hid (1 ≤ m35) := hid_mk (by have := BB34.out; omega)
      have BC35 : Hid (m35 ≤ 134217728 + 35) := hid_mk (by have := BC34.out; omega)
      clear hm
      obtain ⟨m36, hm⟩ : ∃ x : Int, m35 + 1 = x := ⟨_, rfl⟩
      have H36 := hid_mk hm
      have BB36 : Hid (1 ≤ m36) := hid_mk (by have := BB35.out; omega)
      have BC36 : Hid (m36 ≤ 134217728 + 36) := hid_mk (by have := BC35.out; omega)
      clear hm
      obtain ⟨m37, hm⟩ : ∃ x : Int, m36 + 1 = x := ⟨_, rfl⟩
      have H37 := hid_mk hm
      have BB37 : Hid (1 ≤ m37) := hid_mk (by have := BB36.out; omega)
      have BC37 : Hid (m37 ≤ 134217728 + 37) := hid_mk (by have := BC36.out; omega)
      clear hm
      obtain ⟨m38, hm⟩ : ∃ x : Int, m37 + 1 = x := ⟨_, rfl⟩
      have H38 := hid_mk hm
      have BB38 : Hid (1 ≤ m38) := hid_mk (by have := BB37.out; omega)
      have BC38 : Hid (m38 ≤ 134217728 + 38) := hid_mk (by have := BC37.out; omega)
      clear hm
      obtain ⟨m39, hm⟩ : ∃ x : Int, m38 + 1 = x := ⟨_, rfl⟩
      have H39 := hid_mk hm
      have BB39 : Hid (1 ≤ m39) := hid_mk (by have := BB38.out; omega)
      have BC39 : Hid (m39 ≤ 134217728 + 39) := hid_mk (by have := BC38.out; omega)
      clear hm
      have D : Hid (wr.rangeAt kb (ob + k * 40) [.int .i64 m0, .bool (m1 % 3 == 0), .int .i64 m2, .int .i64 m3, .int .i64 m4, .int .i64 m5, .int .i64 m6, .int .i64 m7, .int .i64 m8, .int .i64 m9, .int .i64 m10, .bool (m11 % 3 == 0), .int .i64 m12, .int .i64 m13, .int .i64 m14, .bool (m15 % 3 == 0), .int .i64 m16, .int .i64 m17, .int .i64 m18, .int .i64 m19, .int .i64 m20, .bool (m21 % 3 == 0), .int .i64 m22, .int .i64 m23, .int .i64 m24, .int .i64 m25, .int .i64 m26, .int .i64 m27, .bool (m28 % 3 == 0), .int .i64 m29, .int .i64 m30, .int .i64 m31, .int .i64 m32, .int .i64 m33, .int .i64 m34, .bool (m35 % 3 == 0), .int .i64 m36, .int .i64 m37, .int .i64 m38, .int .i64 m39]) := by
        rw [marked_en m0 m1 m2 m3 m4 m5 m6 m7 m8 m9 m10 m11 m12 m13 m14 m15 m16 m17 m18 m19 m20 m21 m22 m23 m24 m25 m26 m27 m28 m29 m30 m31 m32 m33 m34 m35 m36 m37 m38 m39 H1.out H2.out H3.out H4.out H5.out H6.out H7.out H8.out H9.out H10.out H11.out H12.out H13.out H14.out H15.out H16.out H17.out H18.out H19.out H20.out H21.out H22.out H23.out H24.out H25.out H26.out H27.out H28.out H29.out H30.out H31.out H32.out H33.out H34.out H35.out H36.out H37.out H38.out H39.out]
        exact hat
      clear hat
      have ee : wr.cell? ⟨kb, ob + k * 40, none⟩ = some (.int .i64 m0) := D.out 0 _ rfl
      go_upto_region 7 with fail
      clear ee
      rw [H1.out]
      have bb1 := BB1.out
      have bc1 := BC1.out
      clear bb0 bc0
      have ee : wr.cell? ⟨kb, ob + k * 40 + 1, none⟩ = some (.bool (m1 % 3 == 0)) := D.out 1 _ rfl
      go_upto_region 10 with fail
      clear ee
      rw [H2.out]
      have bb2 := BB2.out
      have bc2 := BC2.out
      clear bb1 bc1
      have ee : wr.cell? ⟨kb, ob + k * 40 + 2, none⟩ = some (.int .i64 m2) := D.out 2 _ rfl
      go_upto_region 13 with fail
      clear ee
      rw [H3.out]
      have bb3 := BB3.out
      have bc3 := BC3.out
      clear bb2 bc2
      have ee : wr.cell? ⟨kb, ob + k * 40 + 3, none⟩ = some (.int .i64 m3) := D.out 3 _ rfl
      go_upto_region 16 with fail
      clear ee
      rw [H4.out]
      have bb4 := BB4.out
      have bc4 := BC4.out
      clear bb3 bc3
      have ee : wr.cell? ⟨kb, ob + k * 40 + 4, none⟩ = some (.int .i64 m4) := D.out 4 _ rfl
      go_upto_region 19 with fail
      clear ee
      rw [H5.out]
      have bb5 := BB5.out
      have bc5 := BC5.out
      clear bb4 bc4
      have ee : wr.cell? ⟨kb, ob + k * 40 + 5, none⟩ = some (.int .i64 m5) := D.out 5 _ rfl
      go_upto_region 22 with fail
      clear ee
      rw [H6.out]
      have bb6 := BB6.out
      have bc6 := BC6.out
      clear bb5 bc5
      have ee : wr.cell? ⟨kb, ob + k * 40 + 6, none⟩ = some (.int .i64 m6) := D.out 6 _ rfl
      go_upto_region 25 with fail
      clear ee
      rw [H7.out]
      have bb7 := BB7.out
      have bc7 := BC7.out
      clear bb6 bc6
      have ee : wr.cell? ⟨kb, ob + k * 40 + 7, none⟩ = some (.int .i64 m7) := D.out 7 _ rfl
      go_upto_region 28 with fail
      clear ee
      rw [H8.out]
      have bb8 := BB8.out
      have bc8 := BC8.out
      clear bb7 bc7
      have ee : wr.cell? ⟨kb, ob + k * 40 + 8, none⟩ = some (.int .i64 m8) := D.out 8 _ rfl
      go_upto_region 31 with fail
      clear ee
      rw [H9.out]
      have bb9 := BB9.out
      have bc9 := BC9.out
      clear bb8 bc8
      have ee : wr.cell? ⟨kb, ob + k * 40 + 9, none⟩ = some (.int .i64 m9) := D.out 9 _ rfl
      go_upto_region 34 with fail
      clear ee
      rw [H10.out]
      have bb10 := BB10.out
      have bc10 := BC10.out
      clear bb9 bc9
      have ee : wr.cell? ⟨kb, ob + k * 40 + 10, none⟩ = some (.int .i64 m10) := D.out 10 _ rfl
      go_upto_region 37 with fail
      clear ee
      rw [H11.out]
      have bb11 := BB11.out
      have bc11 := BC11.out
      clear bb10 bc10
      have ee : wr.cell? ⟨kb, ob + k * 40 + 11, none⟩ = some (.bool (m11 % 3 == 0)) := D.out 11 _ rfl
      go_upto_region 40 with fail
      clear ee
      rw [H12.out]
      have bb12 := BB12.out
      have bc12 := BC12.out
      clear bb11 bc11
      have ee : wr.cell? ⟨kb, ob + k * 40 + 12, none⟩ = some (.int .i64 m12) := D.out 12 _ rfl
      go_upto_region 43 with fail
      clear ee
      rw [H13.out]
      have bb13 := BB13.out
      have bc13 := BC13.out
      clear bb12 bc12
      have ee : wr.cell? ⟨kb, ob + k * 40 + 13, none⟩ = some (.int .i64 m13) := D.out 13 _ rfl
      go_upto_region 46 with fail
      clear ee
      rw [H14.out]
      have bb14 := BB14.out
      have bc14 := BC14.out
      clear bb13 bc13
      have ee : wr.cell? ⟨kb, ob + k * 40 + 14, none⟩ = some (.int .i64 m14) := D.out 14 _ rfl
      go_upto_region 49 with fail
      clear ee
      rw [H15.out]
      have bb15 := BB15.out
      have bc15 := BC15.out
      clear bb14 bc14
      have ee : wr.cell? ⟨kb, ob + k * 40 + 15, none⟩ = some (.bool (m15 % 3 == 0)) := D.out 15 _ rfl
      go_upto_region 52 with fail
      clear ee
      rw [H16.out]
      have bb16 := BB16.out
      have bc16 := BC16.out
      clear bb15 bc15
      have ee : wr.cell? ⟨kb, ob + k * 40 + 16, none⟩ = some (.int .i64 m16) := D.out 16 _ rfl
      go_upto_region 55 with fail
      clear ee
      rw [H17.out]
      have bb17 := BB17.out
      have bc17 := BC17.out
      clear bb16 bc16
      have ee : wr.cell? ⟨kb, ob + k * 40 + 17, none⟩ = some (.int .i64 m17) := D.out 17 _ rfl
      go_upto_region 58 with fail
      clear ee
      rw [H18.out]
      have bb18 := BB18.out
      have bc18 := BC18.out
      clear bb17 bc17
      have ee : wr.cell? ⟨kb, ob + k * 40 + 18, none⟩ = some (.int .i64 m18) := D.out 18 _ rfl
      go_upto_region 61 with fail
      clear ee
      rw [H19.out]
      have bb19 := BB19.out
      have bc19 := BC19.out
      clear bb18 bc18
      have ee : wr.cell? ⟨kb, ob + k * 40 + 19, none⟩ = some (.int .i64 m19) := D.out 19 _ rfl
      go_upto_region 64 with fail
      clear ee
      rw [H20.out]
      have bb20 := BB20.out
      have bc20 := BC20.out
      clear bb19 bc19
      have ee : wr.cell? ⟨kb, ob + k * 40 + 20, none⟩ = some (.int .i64 m20) := D.out 20 _ rfl
      go_upto_region 67 with fail
      clear ee
      rw [H21.out]
      have bb21 := BB21.out
      have bc21 := BC21.out
      clear bb20 bc20
      have ee : wr.cell? ⟨kb, ob + k * 40 + 21, none⟩ = some (.bool (m21 % 3 == 0)) := D.out 21 _ rfl
      go_upto_region 70 with fail
      clear ee
      rw [H22.out]
      have bb22 := BB22.out
      have bc22 := BC22.out
      clear bb21 bc21
      have ee : wr.cell? ⟨kb, ob + k * 40 + 22, none⟩ = some (.int .i64 m22) := D.out 22 _ rfl
      go_upto_region 73 with fail
      clear ee
      rw [H23.out]
      have bb23 := BB23.out
      have bc23 := BC23.out
      clear bb22 bc22
      have ee : wr.cell? ⟨kb, ob + k * 40 + 23, none⟩ = some (.int .i64 m23) := D.out 23 _ rfl
      go_upto_region 76 with fail
      clear ee
      rw [H24.out]
      have bb24 := BB24.out
      have bc24 := BC24.out
      clear bb23 bc23
      have ee : wr.cell? ⟨kb, ob + k * 40 + 24, none⟩ = some (.int .i64 m24) := D.out 24 _ rfl
      go_upto_region 79 with fail
      clear ee
      rw [H25.out]
      have bb25 := BB25.out
      have bc25 := BC25.out
      clear bb24 bc24
      have ee : wr.cell? ⟨kb, ob + k * 40 + 25, none⟩ = some (.int .i64 m25) := D.out 25 _ rfl
      go_upto_region 82 with fail
      clear ee
      rw [H26.out]
      have bb26 := BB26.out
      have bc26 := BC26.out
      clear bb25 bc25
      have ee : wr.cell? ⟨kb, ob + k * 40 + 26, none⟩ = some (.int .i64 m26) := D.out 26 _ rfl
      go_upto_region 85 with fail
      clear ee
      rw [H27.out]
      have bb27 := BB27.out
      have bc27 := BC27.out
      clear bb26 bc26
      have ee : wr.cell? ⟨kb, ob + k * 40 + 27, none⟩ = some (.int .i64 m27) := D.out 27 _ rfl
      go_upto_region 88 with fail
      clear ee
      rw [H28.out]
      have bb28 := BB28.out
      have bc28 := BC28.out
      clear bb27 bc27
      have ee : wr.cell? ⟨kb, ob + k * 40 + 28, none⟩ = some (.bool (m28 % 3 == 0)) := D.out 28 _ rfl
      go_upto_region 91 with fail
      clear ee
      rw [H29.out]
      have bb29 := BB29.out
      have bc29 := BC29.out
      clear bb28 bc28
      have ee : wr.cell? ⟨kb, ob + k * 40 + 29, none⟩ = some (.int .i64 m29) := D.out 29 _ rfl
      go_upto_region 94 with fail
      clear ee
      rw [H30.out]
      have bb30 := BB30.out
      have bc30 := BC30.out
      clear bb29 bc29
      have ee : wr.cell? ⟨kb, ob + k * 40 + 30, none⟩ = some (.int .i64 m30) := D.out 30 _ rfl
      go_upto_region 97 with fail
      clear ee
      rw [H31.out]
      have bb31 := BB31.out
      have bc31 := BC31.out
      clear bb30 bc30
      have ee : wr.cell? ⟨kb, ob + k * 40 + 31, none⟩ = some (.int .i64 m31) := D.out 31 _ rfl
      go_upto_region 100 with fail
      clear ee
      rw [H32.out]
      have bb32 := BB32.out
      have bc32 := BC32.out
      clear bb31 bc31
      have ee : wr.cell? ⟨kb, ob + k * 40 + 32, none⟩ = some (.int .i64 m32) := D.out 32 _ rfl
      go_upto_region 103 with fail
      clear ee
      rw [H33.out]
      have bb33 := BB33.out
      have bc33 := BC33.out
      clear bb32 bc32
      have ee : wr.cell? ⟨kb, ob + k * 40 + 33, none⟩ = some (.int .i64 m33) := D.out 33 _ rfl
      go_upto_region 106 with fail
      clear ee
      rw [H34.out]
      have bb34 := BB34.out
      have bc34 := BC34.out
      clear bb33 bc33
      have ee : wr.cell? ⟨kb, ob + k * 40 + 34, none⟩ = some (.int .i64 m34) := D.out 34 _ rfl
      go_upto_region 109 with fail
      clear ee
      rw [H35.out]
      have bb35 := BB35.out
      have bc35 := BC35.out
      clear bb34 bc34
      have ee : wr.cell? ⟨kb, ob + k * 40 + 35, none⟩ = some (.bool (m35 % 3 == 0)) := D.out 35 _ rfl
      go_upto_region 112 with fail
      clear ee
      rw [H36.out]
      have bb36 := BB36.out
      have bc36 := BC36.out
      clear bb35 bc35
      have ee : wr.cell? ⟨kb, ob + k * 40 + 36, none⟩ = some (.int .i64 m36) := D.out 36 _ rfl
      go_upto_region 115 with fail
      clear ee
      rw [H37.out]
      have bb37 := BB37.out
      have bc37 := BC37.out
      clear bb36 bc36
      have ee : wr.cell? ⟨kb, ob + k * 40 + 37, none⟩ = some (.int .i64 m37) := D.out 37 _ rfl
      go_upto_region 118 with fail
      clear ee
      rw [H38.out]
      have bb38 := BB38.out
      have bc38 := BC38.out
      clear bb37 bc37
      have ee : wr.cell? ⟨kb, ob + k * 40 + 38, none⟩ = some (.int .i64 m38) := D.out 38 _ rfl
      go_upto_region 121 with fail
      clear ee
      rw [H39.out]
      have bb39 := BB39.out
      have bc39 := BC39.out
      clear bb38 bc38
      have ee : wr.cell? ⟨kb, ob + k * 40 + 39, none⟩ = some (.int .i64 m39) := D.out 39 _ rfl
      go_wp2
      clear ee
      refine ⟨⟨k + 1, hlt, ?_, by omega⟩, ?_⟩
      · have e0 := HM.out
        have e1 := H1.out
        have e2 := H2.out
        have e3 := H3.out
        have e4 := H4.out
        have e5 := H5.out
        have e6 := H6.out
        have e7 := H7.out
        have e8 := H8.out
        have e9 := H9.out
        have e10 := H10.out
        have e11 := H11.out
        have e12 := H12.out
        have e13 := H13.out
        have e14 := H14.out
        have e15 := H15.out
        have e16 := H16.out
        have e17 := H17.out
        have e18 := H18.out
        have e19 := H19.out
        have e20 := H20.out
        have e21 := H21.out
        have e22 := H22.out
        have e23 := H23.out
        have e24 := H24.out
        have e25 := H25.out
        have e26 := H26.out
        have e27 := H27.out
        have e28 := H28.out
        have e29 := H29.out
        have e30 := H30.out
        have e31 := H31.out
        have e32 := H32.out
        have e33 := H33.out
        have e34 := H34.out
        have e35 := H35.out
        have e36 := H36.out
        have e37 := H37.out
        have e38 := H38.out
        have e39 := H39.out
        omega
      · simp [intOf]; omega
    · obtain rfl : k = len := by omega
      go_wp2
      go_ret
      exact ⟨rfl, B.out⟩
end Go.Proofs.YtpkhnajhamnggaaGreatDoor
