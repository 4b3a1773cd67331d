import Derived.Test.YtplgdpjbkdagfaaGreatZRPeX
import Derived.Test.YtplgdpjbkdagfaaGreatCopy
namespace Go.Proofs.YtplgdpjbkdagfaaGreat
open Lib renaming hid→Zg
set_option maxRecDepth 100000
open Go.ChangeShapes Go.WideShapes Go.ChangeAt Go.RowKit
set_option linter.unusedVariables false
set_option linter.unusedSimpArgs false
theorem UR (w:World) (bs:List Nat) (hb:Lb bs) (hl:bs.length≤1000000): ∃ C w',(convert 9 25 (.string (txt bs))).run Tryz.prog w= .ok (.slice (some ⟨w.heap.size,0,none⟩) bs.length C) w' ∧
 YI w' w.heap.size w.heap.size C bs∧Below w.heap.size w w':=by
 have hcv:=run_bytes_of_string (P:=Tryz.prog) w 9 25 5 (txt bs) Tryz.underlying9 Tryz.underlying25 Tryz.underlying5
 obtain⟨C,hC⟩: ∃ C,grownCap w bs.length 0 5=C:=⟨_,rfl⟩
 have hcap:=grownCap_ge w bs.length 0 5
 have hcm:=grownCap_le_maxLen w bs.length 0 5 (by simp only[maxLen]; omega)
 simp only[maxLen] at hcm
 rw[Zm,hC] at hcv
 rw[hC] at hcap hcm
 have hrz:(bytesRow (txt bs) C).size=C:=by
  have h1:(txt bs).data.size=(txt bs).size:=rfl
  have h2:=Zm bs
  simp[bytesRow]; omega
 rw[hrz] at hcv
 refine⟨C,_,hcv,YI.conv w.drew bs C C (C+1) hb hcap (by omega) (Nat.le_refl _),?_⟩
 exact((Below.refl w.heap.size w).drew.alloc (Nat.le_refl _) _)
theorem ZU {v:Nat} (h:v≤18446744073709551615):IntKind.u64.wrap (v:Int)=(v:Int):=by rw[IntKind.wrap_u64]; omega
theorem Xf (A:Option Addr) (cap:Nat) (bs:List Nat) (o n:Nat) (v:Int) (u:Nat) (w:World) (hb:Lb bs) (hl:bs.length≤1000000) (hs:SlB w A bs.length (lF bs)) (h1:1≤n) (h8:n≤8) (h:o+n≤bs.length) (hu:IntKind.u64.wrap v=(u:Int)) (hu':u≤18446744073709551615) :
 Calls Tryz.prog 76 #[.slice A bs.length cap,.int .i64 o,.int .i64 n,.int .i64 v] w fun e w'=> ∃ g c,e= .returned (.slice (some ⟨g,0,none⟩) bs.length c)∧YI w' w.heap.size g c (ZQ bs o n u)∧Below w.heap.size w w':=by
 have hlen:=Zo (b:=bs) (o:=o) (n:=n) h u
 have HP:=Zg (fun W=>VC bs o n u W hb hl h1 h8 h hu')
 have HC:=Zg (fun W=>UR W (ZQ bs o n u) (UQ hb o n u) (by omega))
 have hst:(convert 25 9 (.slice A bs.length cap)).run Tryz.prog w= .ok (.string (txt bs)) w:=by
  rcases hs with h0|⟨b,off,rfl,_,hr⟩
  ·omega
  ·exact YB (cap:=cap) hr
 rw[hlen] at HC
 obtain⟨r,hr⟩: ∃ r,ZQ bs o n u=r:=⟨_,rfl⟩
 rw[hr] at HP HC ⊢
 clear hlen hs hr hb
 go_enter Tryz.func76,Tryz.ntmps76
 go_wp2_with fail
 refine(HP.out _).mono ?_
 rintro e w1 ⟨rfl,hw1⟩
 obtain⟨C,w2,hc,ho,hw2⟩:=HC.out w1
 have HB:=Zg (hw1.trans (hw2.mono hw1.size))
 have HO:=Zg (ho.weaken (base':=w.heap.size) hw1.size)
 clear hw1 hw2 ho
 go_wp2_with fail
 go_ret
 exact⟨_,_,rfl,HO.out,HB.out⟩
end Go.Proofs.YtplgdpjbkdagfaaGreat
