import Derived.Test.YtplgdpjbkdagfaaGreatZRefD2
namespace Go.Proofs.YtplgdpjbkdagfaaGreat
open List renaming getElem?_toArray→Za, getElem?_cons_succ→Zb, getElem?_cons_zero→Zc, setIfInBounds_toArray→Zd, set_cons_zero→Ze, set_cons_succ→Zf
open Lib renaming hid→Zg
set_option maxRecDepth 100000
open Go.ChangeShapes Go.WideShapes Go.ChangeAt Go.RowKit
set_option linter.unusedVariables false
set_option linter.unusedSimpArgs false
set_option maxRecDepth 100000 in
set_option maxHeartbeats 8000000 in
theorem Zap (bs:List Nat) (rva size:Int) (w:World) (hb:Lb bs) (hlen:bs.length≤1000000) (hr: -9223372036854775808≤rva) (hr':rva≤9223372036854775807) (hz: -9223372036854775808≤size) (hz':size≤9223372036854775807) :
 Calls Tryz.prog 38 #[.string (txt bs),.agg #[.int .i64 rva,.int .i64 size]] w fun e w'=>Zim w w' (Uh bs rva size) e∧Below w.heap.size w w':=by
 obtain⟨RR,hR⟩: ∃ R,Uh bs rva size=R:=⟨_,rfl⟩
 rw[hR]
 unfold Uh at hR
 obtain⟨w1,hw1⟩: ∃ w1,((w.alloc (.cells #[.int .i64 rva,.int .i64 size] 37)).alloc (.cells #[.int .i64 0,.slice none 0 0,.slice none 0 0] 45)).alloc (.cells #[.int .i64 0,.slice none 0 0,.slice none 0 0] 45)=w1:=⟨_,rfl⟩
 have hs1:(w.alloc (.cells #[.int .i64 rva,.int .i64 size] 37)).heap.size=w.heap.size+1:=by simp
 have hs2:((w.alloc (.cells #[.int .i64 rva,.int .i64 size] 37)).alloc (.cells #[.int .i64 0,.slice none 0 0,.slice none 0 0] 45)).heap.size=w.heap.size+2:=by simp
 have HB:=Zg (show Below w.heap.size w w1 from by rw[←hw1]; exact((((Below.refl w.heap.size w).alloc (Nat.le_refl _) _).alloc (by rw[hs1]; omega) _).alloc (by rw[hs2]; omega) _))
 have H0:=Zg (show w1.heap[w.heap.size]? =some (.cells #[.int .i64 rva,.int .i64 size] 37 (0,0)) from by
  rw[←hw1]
  exact(Below.heap_alloc _ _ w.heap.size (by rw[hs2]; omega)).trans ((Below.heap_alloc _ _ w.heap.size (by rw[hs1]; omega)).trans (heap_alloc_new w _)))
 have H1:=Zg (show w1.heap[w.heap.size+1]? =some (.cells #[.int .i64 0,.slice none 0 0,.slice none 0 0] 45 (0,0)) from by
  rw[←hw1]
  refine(Below.heap_alloc _ _ (w.heap.size+1) (by rw[hs2]; omega)).trans ?_
  have h:=heap_alloc_new (w.alloc (.cells #[.int .i64 rva,.int .i64 size] 37)) (.cells #[.int .i64 0,.slice none 0 0,.slice none 0 0] 45)
  rwa [hs1] at h)
 have H2:=Zg (show w1.heap[w.heap.size+2]? =some (.cells #[.int .i64 0,.slice none 0 0,.slice none 0 0] 45 (0,0)) from by
  rw[←hw1]
  have h:=heap_alloc_new ((w.alloc (.cells #[.int .i64 rva,.int .i64 size] 37)).alloc (.cells #[.int .i64 0,.slice none 0 0,.slice none 0 0] 45)) (.cells #[.int .i64 0,.slice none 0 0,.slice none 0 0] 45)
  rwa [hs2] at h)
 have HS1:=Zg (show w1.heap.size=w.heap.size+3 from by rw[←hw1]; simp)
 have HE1:=Zg hw1
 have HLB:=Zg hb
 have hsz:(txt bs).size=bs.length:=Zm bs
 have r0:w1.cell? ⟨w.heap.size,0,none⟩=some (.int .i64 rva):=by rw[Zh H0.out]; rfl
 have r1:w1.cell? ⟨w.heap.size,1,none⟩=some (.int .i64 size):=by rw[Zh H0.out]; rfl
 clear hw1 hs1 hs2 hb
 by_cases c0:rva=0
 ·subst c0
  rw[if_pos rfl] at hR
  subst hR
  go_enter Tryz.func38,Tryz.ntmps38
  go_upto_region 2 with(fail)
  refine(congrArg _ HE1.out).mpr ?_
  have z0:w1.cell? ⟨w.heap.size+2,0,none⟩=some (.int .i64 0):=by rw[Zh H2.out]; rfl
  have z1:w1.cell? ⟨w.heap.size+2,1,none⟩=some (.slice none 0 0):=by rw[Zh H2.out]; rfl
  have z2:w1.cell? ⟨w.heap.size+2,2,none⟩=some (.slice none 0 0):=by rw[Zh H2.out]; rfl
  obtain⟨w9,hw9⟩: ∃ w9,w1.setRow (w.heap.size+1) #[.int .i64 0,.slice none 0 0,.slice none 0 0]=w9:=⟨_,rfl⟩
  have HE9:=Zg hw9
  have HR9:=Zg (show w9.heap[w.heap.size+1]? =some (.cells #[.int .i64 0,.slice none 0 0,.slice none 0 0] 45 (0,0)) from by rw[←hw9]; exact setRow_heap _ _ _ _ _ _ H1.out)
  have HB9:=Zg (show Below w.heap.size w w9 from by rw[←hw9]; exact below_setRow HB.out (Nat.le_succ _) _)
  have k0:w9.cell? ⟨w.heap.size+1,0,none⟩=some (.int .i64 0):=by rw[Zh HR9.out]; rfl
  have k1:w9.cell? ⟨w.heap.size+1,1,none⟩=some (.slice none 0 0):=by rw[Zh HR9.out]; rfl
  have k2:w9.cell? ⟨w.heap.size+1,2,none⟩=some (.slice none 0 0):=by rw[Zh HR9.out]; rfl
  clear hw9
  go_wp2_with (first|(refine wpList_store_row rfl 45 _ _ rfl (w.heap.size+1) #[.int .i64 0,.slice none 0 0,.slice none 0 0] rfl rfl 45 #[.int .i64 0,.slice none 0 0,.slice none 0 0] H1.out Yg rfl Yh ?_; refine(congrArg _ HE9.out).mpr ?_)|fail)
  refine bodyPost_ret (v:= .tuple #[.agg #[.int .i64 0,.slice none 0 0,.slice none 0 0],.int .i64 0]) (by simp[results,Tryz.results38,go_sem,k0,k1,k2]) rfl ⟨?_,HB9.out⟩
  exact⟨none,0,none,0,rfl,ZR.nil _ _ _,ZR.nil _ _ _⟩
 rw[if_neg c0] at hR
 have d0:(rva == 0)=false:=beq_eq_false_iff_ne.mpr c0
 by_cases c1:0≤rva∧0≤size∧rva≤bs.length - size
 ·by_cases c2:40≤size
  ·obtain⟨o,rfl⟩: ∃ o:Nat,rva=(o:Int):=⟨rva.toNat,by omega⟩
   obtain⟨z,rfl⟩: ∃ z:Nat,size=(z:Int):=⟨size.toNat,by omega⟩
   have hoz:o+z≤bs.length:=by omega
   have HIN:=Zg (fun W=>Vl bs.length o z W (by omega) (by omega) (by omega) (by omega))
   have d1: ¬ (z:Int)<40:=by omega
   unfold Zdn at hR
   rw[if_pos (by omega),Int.toNat_natCast,Int.toNat_natCast] at hR
   unfold Zhg at hR
   obtain⟨o16,ho16⟩: ∃ q,o+16=q:=⟨_,rfl⟩
   have eo16:(o:Int)+16=(o16:Int):=by omega
   have wo16:IntKind.i64.wrap (o16:Int)=(o16:Int):=by rw[IntKind.wrap_i64]; omega
   have HU16:=Zg (fun W=>ZL bs o16 4 W HLB.out (by omega) (by omega) (by omega))
   have hx16:=Ym (HLB.out.drop o16) 4
   rw[show(256:Nat) ^ 4=4294967296 from rfl] at hx16
   rw[ho16] at hR
   obtain⟨x16,hxx16⟩: ∃ v,YS (bs.drop o16) 4=v:=⟨_,rfl⟩
   rw[hxx16] at HU16 hx16 hR
   clear ho16 hxx16
   obtain⟨o20,ho20⟩: ∃ q,o+20=q:=⟨_,rfl⟩
   have eo20:(o:Int)+20=(o20:Int):=by omega
   have wo20:IntKind.i64.wrap (o20:Int)=(o20:Int):=by rw[IntKind.wrap_i64]; omega
   have HU20:=Zg (fun W=>ZL bs o20 4 W HLB.out (by omega) (by omega) (by omega))
   have hx20:=Ym (HLB.out.drop o20) 4
   rw[show(256:Nat) ^ 4=4294967296 from rfl] at hx20
   rw[ho20] at hR
   obtain⟨x20,hxx20⟩: ∃ v,YS (bs.drop o20) 4=v:=⟨_,rfl⟩
   rw[hxx20] at HU20 hx20 hR
   clear ho20 hxx20
   obtain⟨o24,ho24⟩: ∃ q,o+24=q:=⟨_,rfl⟩
   have eo24:(o:Int)+24=(o24:Int):=by omega
   have wo24:IntKind.i64.wrap (o24:Int)=(o24:Int):=by rw[IntKind.wrap_i64]; omega
   have HU24:=Zg (fun W=>ZL bs o24 4 W HLB.out (by omega) (by omega) (by omega))
   have hx24:=Ym (HLB.out.drop o24) 4
   rw[show(256:Nat) ^ 4=4294967296 from rfl] at hx24
   rw[ho24] at hR
   obtain⟨x24,hxx24⟩: ∃ v,YS (bs.drop o24) 4=v:=⟨_,rfl⟩
   rw[hxx24] at HU24 hx24 hR
   clear ho24 hxx24
   obtain⟨o28,ho28⟩: ∃ q,o+28=q:=⟨_,rfl⟩
   have eo28:(o:Int)+28=(o28:Int):=by omega
   have wo28:IntKind.i64.wrap (o28:Int)=(o28:Int):=by rw[IntKind.wrap_i64]; omega
   have HU28:=Zg (fun W=>ZL bs o28 4 W HLB.out (by omega) (by omega) (by omega))
   have hx28:=Ym (HLB.out.drop o28) 4
   rw[show(256:Nat) ^ 4=4294967296 from rfl] at hx28
   rw[ho28] at hR
   obtain⟨x28,hxx28⟩: ∃ v,YS (bs.drop o28) 4=v:=⟨_,rfl⟩
   rw[hxx28] at HU28 hx28 hR
   clear ho28 hxx28
   obtain⟨o32,ho32⟩: ∃ q,o+32=q:=⟨_,rfl⟩
   have eo32:(o:Int)+32=(o32:Int):=by omega
   have wo32:IntKind.i64.wrap (o32:Int)=(o32:Int):=by rw[IntKind.wrap_i64]; omega
   have HU32:=Zg (fun W=>ZL bs o32 4 W HLB.out (by omega) (by omega) (by omega))
   have hx32:=Ym (HLB.out.drop o32) 4
   rw[show(256:Nat) ^ 4=4294967296 from rfl] at hx32
   rw[ho32] at hR
   obtain⟨x32,hxx32⟩: ∃ v,YS (bs.drop o32) 4=v:=⟨_,rfl⟩
   rw[hxx32] at HU32 hx32 hR
   clear ho32 hxx32
   obtain⟨o36,ho36⟩: ∃ q,o+36=q:=⟨_,rfl⟩
   have eo36:(o:Int)+36=(o36:Int):=by omega
   have wo36:IntKind.i64.wrap (o36:Int)=(o36:Int):=by rw[IntKind.wrap_i64]; omega
   have HU36:=Zg (fun W=>ZL bs o36 4 W HLB.out (by omega) (by omega) (by omega))
   have hx36:=Ym (HLB.out.drop o36) 4
   rw[show(256:Nat) ^ 4=4294967296 from rfl] at hx36
   rw[ho36] at hR
   obtain⟨x36,hxx36⟩: ∃ v,YS (bs.drop o36) 4=v:=⟨_,rfl⟩
   rw[hxx36] at HU36 hx36 hR
   clear ho36 hxx36
   have HRE:=Zg (show RR=if(Rw.mk x16 x20 x24 x28 x32 x36).ok bs.length=true then Ziw bs x16 x20 x24 x32 x36 (Wz bs o z x28 x20 0 []) else none from by
    rw[←hR]
    unfold Ziw
    by_cases hk:(Rw.mk x16 x20 x24 x28 x32 x36).ok bs.length=true
    ·rw[if_pos hk,if_pos hk]
     simp only
     cases Wz bs o z x28 x20 0 [] <;> rfl
    ·rw[if_neg hk,if_neg hk])
   clear hR c0 c1 c2 hr hz
   go_enter Tryz.func38,Tryz.ntmps38
   go_upto_region 2 with(fail)
   refine(congrArg _ HE1.out).mpr ?_
   go_wp2_with fail
   refine(HIN.out _).mono ?_
   rintro e w' ⟨rfl,rfl⟩
   go_wp2_with fail
   refine(HU16.out _).mono ?_
   rintro e w' ⟨rfl,rfl⟩
   obtain⟨w2,hw2⟩: ∃ w2,w1.alloc (.cells #[.int .i64 x16,.slice none 0 0,.slice none 0 0] 45)=w2:=⟨_,rfl⟩
   have HE2:=Zg hw2
   have hA:Below w1.heap.size w1 w2:=by rw[←hw2]; exact(Below.refl w1.heap.size w1).alloc (Nat.le_refl _) _
   replace HB:=Zg (HB.out.trans (hA.mono HB.out.size))
   replace H0:=Zg ((hA.block _ (Zi H0.out)).trans H0.out)
   replace H1:=Zg ((hA.block _ (Zi H1.out)).trans H1.out)
   replace H2:=Zg ((hA.block _ (Zi H2.out)).trans H2.out)
   have H3:=Zg (show w2.heap[w.heap.size+3]? =some (.cells #[.int .i64 x16,.slice none 0 0,.slice none 0 0] 45 (0,0)) from by
    rw[←hw2]
    have h:=heap_alloc_new w1 (.cells #[.int .i64 x16,.slice none 0 0,.slice none 0 0] 45)
    rwa [HS1.out] at h)
   clear hw2 hA r0 r1
   have hs1:=HS1.out
   go_upto_region 7 with(fail)
   refine(congrArg _ HE2.out).mpr ?_
   have HC:=Zg (fun W (hW:Below w2.heap.size w2 W)=>show W.cell? ⟨w.heap.size,0,none⟩=some (.int .i64 o) from by rw[Zh ((hW.block _ (Zi H0.out)).trans H0.out)]; rfl)
   have HS:=Zg (show Below w2.heap.size w2 w2.drew from(Below.refl _ _).drew)
   refine wp_region_noPanic ?_
   refine Zw (fun W=>Below w2.heap.size w2 W) (fun _=>True) 99 (by kernel_rfl) ?_
   refine wT (i:=0) (oi:= ?_) (v:= ?_) ?_ ?_ HS.out ?_
   rotate_left 2
   ·(simp only[Za,Zb,Zc]; rfl)
   ·(first|exact Or.inr ⟨by rfl,rfl⟩|(refine Or.inl ⟨by rfl,?_⟩; intro W hSw; clear hSw; go_simp; try with_reducible rfl))
   try simp only[Act.put,Zd,Ze,Zf]
   refine wT (i:=1) (oi:= ?_) (v:= ?_) ?_ ?_ HS.out ?_
   rotate_left 2
   ·(simp only[Za,Zb,Zc]; rfl)
   ·(first|exact Or.inr ⟨by rfl,rfl⟩|(refine Or.inl ⟨by rfl,?_⟩; intro W hSw; clear hSw; go_simp; try with_reducible rfl))
   try simp only[Act.put,Zd,Ze,Zf]
   refine wT (i:=2) (oi:= ?_) (v:= ?_) ?_ ?_ HS.out ?_
   rotate_left 2
   ·(simp only[Za,Zb,Zc]; rfl)
   ·(first|exact Or.inr ⟨by rfl,rfl⟩|(refine Or.inl ⟨by rfl,?_⟩; intro W hSw; have hq0:=HC.out W hSw; clear hSw; go_simp; try with_reducible rfl))
   try simp only[Act.put,Zd,Ze,Zf]
   refine wT (i:=3) (oi:= ?_) (v:= ?_) ?_ ?_ HS.out ?_
   rotate_left 2
   ·(simp only[Za,Zb,Zc]; rfl)
   ·(first|exact Or.inr ⟨by rfl,rfl⟩|(refine Or.inl ⟨by rfl,?_⟩; intro W hSw; clear hSw; go_simp; try with_reducible rfl))
   try simp only[Act.put,Zd,Ze,Zf]
   refine ZX (i:=4) (oi:= ?_) (v:= .int .i64 x20) ?_ (by kernel_rfl) (by kernel_rfl) (by kernel_rfl) (fun _ _ _ h=>h) (by decide) ?_ HS.out (fun _=>trivial) ?_
   rotate_left 1
   ·(simp only[Za,Zb,Zc]; rfl)
   ·refine⟨by rfl,fun W hW=>⟨72,#[.string (txt bs),.int .i64 o20,.int .i64 4],?_,HU20.out W⟩⟩
    first|kernel_rfl|(go_simp; done)|rfl
   try simp only[Act.put,Zd,Ze,Zf]
   refine wT (i:=5) (oi:= ?_) (v:= ?_) ?_ ?_ HS.out ?_
   rotate_left 2
   ·(simp only[Za,Zb,Zc]; rfl)
   ·(first|exact Or.inr ⟨by rfl,rfl⟩|(refine Or.inl ⟨by rfl,?_⟩; intro W hSw; clear hSw; go_simp; try with_reducible rfl))
   try simp only[Act.put,Zd,Ze,Zf]
   refine wT (i:=6) (oi:= ?_) (v:= ?_) ?_ ?_ HS.out ?_
   rotate_left 2
   ·(simp only[Za,Zb,Zc]; rfl)
   ·(first|exact Or.inr ⟨by rfl,rfl⟩|(refine Or.inl ⟨by rfl,?_⟩; intro W hSw; clear hSw; go_simp; try with_reducible rfl))
   try simp only[Act.put,Zd,Ze,Zf]
   refine wT (i:=7) (oi:= ?_) (v:= ?_) ?_ ?_ HS.out ?_
   rotate_left 2
   ·(simp only[Za,Zb,Zc]; rfl)
   ·(first|exact Or.inr ⟨by rfl,rfl⟩|(refine Or.inl ⟨by rfl,?_⟩; intro W hSw; have hq0:=HC.out W hSw; clear hSw; go_simp; try with_reducible rfl))
   try simp only[Act.put,Zd,Ze,Zf]
   refine wT (i:=8) (oi:= ?_) (v:= ?_) ?_ ?_ HS.out ?_
   rotate_left 2
   ·(simp only[Za,Zb,Zc]; rfl)
   ·(first|exact Or.inr ⟨by rfl,rfl⟩|(refine Or.inl ⟨by rfl,?_⟩; intro W hSw; clear hSw; go_simp; try with_reducible rfl))
   try simp only[Act.put,Zd,Ze,Zf]
   refine ZX (i:=9) (oi:= ?_) (v:= .int .i64 x24) ?_ (by kernel_rfl) (by kernel_rfl) (by kernel_rfl) (fun _ _ _ h=>h) (by decide) ?_ HS.out (fun _=>trivial) ?_
   rotate_left 1
   ·(simp only[Za,Zb,Zc]; rfl)
   ·refine⟨by rfl,fun W hW=>⟨72,#[.string (txt bs),.int .i64 o24,.int .i64 4],?_,HU24.out W⟩⟩
    first|kernel_rfl|(go_simp; done)|rfl
   try simp only[Act.put,Zd,Ze,Zf]
   refine wT (i:=10) (oi:= ?_) (v:= ?_) ?_ ?_ HS.out ?_
   rotate_left 2
   ·(simp only[Za,Zb,Zc]; rfl)
   ·(first|exact Or.inr ⟨by rfl,rfl⟩|(refine Or.inl ⟨by rfl,?_⟩; intro W hSw; clear hSw; go_simp; try with_reducible rfl))
   try simp only[Act.put,Zd,Ze,Zf]
   refine wT (i:=11) (oi:= ?_) (v:= ?_) ?_ ?_ HS.out ?_
   rotate_left 2
   ·(simp only[Za,Zb,Zc]; rfl)
   ·(first|exact Or.inr ⟨by rfl,rfl⟩|(refine Or.inl ⟨by rfl,?_⟩; intro W hSw; clear hSw; go_simp; try with_reducible rfl))
   try simp only[Act.put,Zd,Ze,Zf]
   refine Zp (by kernel_rfl) ?_ _
   refine NoPanic.normal ?_
   clear HC HS
   obtain⟨w3,hw3⟩: ∃ q,w2.drew=q:=⟨_,rfl⟩
   have HE3:=Zg hw3
   replace HB:=Zg (show Below w.heap.size w w3 from by rw[←hw3]; exact HB.out.drew)
   replace H0:=Zg (show w3.heap[w.heap.size]? =some (.cells #[.int .i64 o,.int .i64 z] 37 (0,0)) from by rw[←hw3]; exact H0.out)
   replace H1:=Zg (show w3.heap[w.heap.size+1]? =some (.cells #[.int .i64 0,.slice none 0 0,.slice none 0 0] 45 (0,0)) from by rw[←hw3]; exact H1.out)
   replace H2:=Zg (show w3.heap[w.heap.size+2]? =some (.cells #[.int .i64 0,.slice none 0 0,.slice none 0 0] 45 (0,0)) from by rw[←hw3]; exact H2.out)
   replace H3:=Zg (show w3.heap[w.heap.size+3]? =some (.cells #[.int .i64 x16,.slice none 0 0,.slice none 0 0] 45 (0,0)) from by rw[←hw3]; exact H3.out)
   clear hw3
   go_upto_region 8 with(fail)
   refine(congrArg _ HE3.out).mpr ?_
   have HC:=Zg (fun W (hW:Below w3.heap.size w3 W)=>show W.cell? ⟨w.heap.size,0,none⟩=some (.int .i64 o) from by rw[Zh ((hW.block _ (Zi H0.out)).trans H0.out)]; rfl)
   have HS:=Zg (show Below w3.heap.size w3 w3.drew from(Below.refl _ _).drew)
   refine wp_region_noPanic ?_
   refine Zw (fun W=>Below w3.heap.size w3 W) (fun _=>True) 99 (by kernel_rfl) ?_
   refine wT (i:=0) (oi:= ?_) (v:= ?_) ?_ ?_ HS.out ?_
   rotate_left 2
   ·(simp only[Za,Zb,Zc]; rfl)
   ·(first|exact Or.inr ⟨by rfl,rfl⟩|(refine Or.inl ⟨by rfl,?_⟩; intro W hSw; clear hSw; go_simp; try with_reducible rfl))
   try simp only[Act.put,Zd,Ze,Zf]
   refine wT (i:=1) (oi:= ?_) (v:= ?_) ?_ ?_ HS.out ?_
   rotate_left 2
   ·(simp only[Za,Zb,Zc]; rfl)
   ·(first|exact Or.inr ⟨by rfl,rfl⟩|(refine Or.inl ⟨by rfl,?_⟩; intro W hSw; clear hSw; go_simp; try with_reducible rfl))
   try simp only[Act.put,Zd,Ze,Zf]
   refine wT (i:=2) (oi:= ?_) (v:= ?_) ?_ ?_ HS.out ?_
   rotate_left 2
   ·(simp only[Za,Zb,Zc]; rfl)
   ·(first|exact Or.inr ⟨by rfl,rfl⟩|(refine Or.inl ⟨by rfl,?_⟩; intro W hSw; have hq0:=HC.out W hSw; clear hSw; go_simp; try with_reducible rfl))
   try simp only[Act.put,Zd,Ze,Zf]
   refine wT (i:=3) (oi:= ?_) (v:= ?_) ?_ ?_ HS.out ?_
   rotate_left 2
   ·(simp only[Za,Zb,Zc]; rfl)
   ·(first|exact Or.inr ⟨by rfl,rfl⟩|(refine Or.inl ⟨by rfl,?_⟩; intro W hSw; clear hSw; go_simp; try with_reducible rfl))
   try simp only[Act.put,Zd,Ze,Zf]
   refine ZX (i:=4) (oi:= ?_) (v:= .int .i64 x28) ?_ (by kernel_rfl) (by kernel_rfl) (by kernel_rfl) (fun _ _ _ h=>h) (by decide) ?_ HS.out (fun _=>trivial) ?_
   rotate_left 1
   ·(simp only[Za,Zb,Zc]; rfl)
   ·refine⟨by rfl,fun W hW=>⟨72,#[.string (txt bs),.int .i64 o28,.int .i64 4],?_,HU28.out W⟩⟩
    first|kernel_rfl|(go_simp; done)|rfl
   try simp only[Act.put,Zd,Ze,Zf]
   refine wT (i:=5) (oi:= ?_) (v:= ?_) ?_ ?_ HS.out ?_
   rotate_left 2
   ·(simp only[Za,Zb,Zc]; rfl)
   ·(first|exact Or.inr ⟨by rfl,rfl⟩|(refine Or.inl ⟨by rfl,?_⟩; intro W hSw; clear hSw; go_simp; try with_reducible rfl))
   try simp only[Act.put,Zd,Ze,Zf]
   refine wT (i:=6) (oi:= ?_) (v:= ?_) ?_ ?_ HS.out ?_
   rotate_left 2
   ·(simp only[Za,Zb,Zc]; rfl)
   ·(first|exact Or.inr ⟨by rfl,rfl⟩|(refine Or.inl ⟨by rfl,?_⟩; intro W hSw; clear hSw; go_simp; try with_reducible rfl))
   try simp only[Act.put,Zd,Ze,Zf]
   refine wT (i:=7) (oi:= ?_) (v:= ?_) ?_ ?_ HS.out ?_
   rotate_left 2
   ·(simp only[Za,Zb,Zc]; rfl)
   ·(first|exact Or.inr ⟨by rfl,rfl⟩|(refine Or.inl ⟨by rfl,?_⟩; intro W hSw; have hq0:=HC.out W hSw; clear hSw; go_simp; try with_reducible rfl))
   try simp only[Act.put,Zd,Ze,Zf]
   refine wT (i:=8) (oi:= ?_) (v:= ?_) ?_ ?_ HS.out ?_
   rotate_left 2
   ·(simp only[Za,Zb,Zc]; rfl)
   ·(first|exact Or.inr ⟨by rfl,rfl⟩|(refine Or.inl ⟨by rfl,?_⟩; intro W hSw; clear hSw; go_simp; try with_reducible rfl))
   try simp only[Act.put,Zd,Ze,Zf]
   refine ZX (i:=9) (oi:= ?_) (v:= .int .i64 x32) ?_ (by kernel_rfl) (by kernel_rfl) (by kernel_rfl) (fun _ _ _ h=>h) (by decide) ?_ HS.out (fun _=>trivial) ?_
   rotate_left 1
   ·(simp only[Za,Zb,Zc]; rfl)
   ·refine⟨by rfl,fun W hW=>⟨72,#[.string (txt bs),.int .i64 o32,.int .i64 4],?_,HU32.out W⟩⟩
    first|kernel_rfl|(go_simp; done)|rfl
   try simp only[Act.put,Zd,Ze,Zf]
   refine wT (i:=10) (oi:= ?_) (v:= ?_) ?_ ?_ HS.out ?_
   rotate_left 2
   ·(simp only[Za,Zb,Zc]; rfl)
   ·(first|exact Or.inr ⟨by rfl,rfl⟩|(refine Or.inl ⟨by rfl,?_⟩; intro W hSw; clear hSw; go_simp; try with_reducible rfl))
   try simp only[Act.put,Zd,Ze,Zf]
   refine wT (i:=11) (oi:= ?_) (v:= ?_) ?_ ?_ HS.out ?_
   rotate_left 2
   ·(simp only[Za,Zb,Zc]; rfl)
   ·(first|exact Or.inr ⟨by rfl,rfl⟩|(refine Or.inl ⟨by rfl,?_⟩; intro W hSw; clear hSw; go_simp; try with_reducible rfl))
   try simp only[Act.put,Zd,Ze,Zf]
   refine wT (i:=12) (oi:= ?_) (v:= ?_) ?_ ?_ HS.out ?_
   rotate_left 2
   ·(simp only[Za,Zb,Zc]; rfl)
   ·(first|exact Or.inr ⟨by rfl,rfl⟩|(refine Or.inl ⟨by rfl,?_⟩; intro W hSw; have hq0:=HC.out W hSw; clear hSw; go_simp; try with_reducible rfl))
   try simp only[Act.put,Zd,Ze,Zf]
   refine wT (i:=13) (oi:= ?_) (v:= ?_) ?_ ?_ HS.out ?_
   rotate_left 2
   ·(simp only[Za,Zb,Zc]; rfl)
   ·(first|exact Or.inr ⟨by rfl,rfl⟩|(refine Or.inl ⟨by rfl,?_⟩; intro W hSw; clear hSw; go_simp; try with_reducible rfl))
   try simp only[Act.put,Zd,Ze,Zf]
   refine ZX (i:=14) (oi:= ?_) (v:= .int .i64 x36) ?_ (by kernel_rfl) (by kernel_rfl) (by kernel_rfl) (fun _ _ _ h=>h) (by decide) ?_ HS.out (fun _=>trivial) ?_
   rotate_left 1
   ·(simp only[Za,Zb,Zc]; rfl)
   ·refine⟨by rfl,fun W hW=>⟨72,#[.string (txt bs),.int .i64 o36,.int .i64 4],?_,HU36.out W⟩⟩
    first|kernel_rfl|(go_simp; done)|rfl
   try simp only[Act.put,Zd,Ze,Zf]
   refine wT (i:=15) (oi:= ?_) (v:= ?_) ?_ ?_ HS.out ?_
   rotate_left 2
   ·(simp only[Za,Zb,Zc]; rfl)
   ·(first|exact Or.inr ⟨by rfl,rfl⟩|(refine Or.inl ⟨by rfl,?_⟩; intro W hSw; clear hSw; go_simp; try with_reducible rfl))
   try simp only[Act.put,Zd,Ze,Zf]
   refine wT (i:=16) (oi:= ?_) (v:= ?_) ?_ ?_ HS.out ?_
   rotate_left 2
   ·(simp only[Za,Zb,Zc]; rfl)
   ·(first|exact Or.inr ⟨by rfl,rfl⟩|(refine Or.inl ⟨by rfl,?_⟩; intro W hSw; clear hSw; go_simp; try with_reducible rfl))
   try simp only[Act.put,Zd,Ze,Zf]
   refine wT (i:=17) (oi:= ?_) (v:= ?_) ?_ ?_ HS.out ?_
   rotate_left 2
   ·(simp only[Za,Zb,Zc]; rfl)
   ·(first|exact Or.inr ⟨by rfl,rfl⟩|(refine Or.inl ⟨by rfl,?_⟩; intro W hSw; clear hSw; go_simp; try with_reducible rfl))
   try simp only[Act.put,Zd,Ze,Zf]
   refine Zp (by kernel_rfl) ?_ _
   refine NoPanic.normal ?_
   clear HC HS
   obtain⟨w4,hw4⟩: ∃ q,w3.drew=q:=⟨_,rfl⟩
   have HE4:=Zg hw4
   replace HB:=Zg (show Below w.heap.size w w4 from by rw[←hw4]; exact HB.out.drew)
   replace H0:=Zg (show w4.heap[w.heap.size]? =some (.cells #[.int .i64 o,.int .i64 z] 37 (0,0)) from by rw[←hw4]; exact H0.out)
   replace H1:=Zg (show w4.heap[w.heap.size+1]? =some (.cells #[.int .i64 0,.slice none 0 0,.slice none 0 0] 45 (0,0)) from by rw[←hw4]; exact H1.out)
   replace H2:=Zg (show w4.heap[w.heap.size+2]? =some (.cells #[.int .i64 0,.slice none 0 0,.slice none 0 0] 45 (0,0)) from by rw[←hw4]; exact H2.out)
   replace H3:=Zg (show w4.heap[w.heap.size+3]? =some (.cells #[.int .i64 x16,.slice none 0 0,.slice none 0 0] 45 (0,0)) from by rw[←hw4]; exact H3.out)
   clear hw4
   refine(congrArg _ HE4.out).mpr ?_
   rename_i K9 hK9
   refine hK9 _ _ ?_
   exact Zia bs o z x16 x20 x24 x28 x32 x36 w w4 RR HLB hlen (by omega) (by omega) hx16 hx20 hx24 hx28 hx32 hx36 HRE HB H0 H1 H2 H3 _ ⟨rfl,rfl,rfl⟩
  ·have d1:size<40:=by omega
   have HIN:=Zg (fun W=>Vl bs.length rva size W (by omega) (by omega) (by omega) (by omega))
   unfold Zdn at hR
   rw[if_neg (by omega)] at hR
   simp only at hR
   subst hR
   clear c1 c2 c0
   go_enter Tryz.func38,Tryz.ntmps38
   go_upto_region 2 with(fail)
   refine(congrArg _ HE1.out).mpr ?_
   go_wp2_with fail
   refine(HIN.out _).mono ?_
   rintro e w' ⟨rfl,rfl⟩
   have z0:w1.cell? ⟨w.heap.size+2,0,none⟩=some (.int .i64 0):=by rw[Zh H2.out]; rfl
   have z1:w1.cell? ⟨w.heap.size+2,1,none⟩=some (.slice none 0 0):=by rw[Zh H2.out]; rfl
   have z2:w1.cell? ⟨w.heap.size+2,2,none⟩=some (.slice none 0 0):=by rw[Zh H2.out]; rfl
   obtain⟨w9,hw9⟩: ∃ w9,w1.setRow (w.heap.size+1) #[.int .i64 0,.slice none 0 0,.slice none 0 0]=w9:=⟨_,rfl⟩
   have HE9:=Zg hw9
   have HR9:=Zg (show w9.heap[w.heap.size+1]? =some (.cells #[.int .i64 0,.slice none 0 0,.slice none 0 0] 45 (0,0)) from by rw[←hw9]; exact setRow_heap _ _ _ _ _ _ H1.out)
   have HB9:=Zg (show Below w.heap.size w w9 from by rw[←hw9]; exact below_setRow HB.out (Nat.le_succ _) _)
   have k0:w9.cell? ⟨w.heap.size+1,0,none⟩=some (.int .i64 0):=by rw[Zh HR9.out]; rfl
   have k1:w9.cell? ⟨w.heap.size+1,1,none⟩=some (.slice none 0 0):=by rw[Zh HR9.out]; rfl
   have k2:w9.cell? ⟨w.heap.size+1,2,none⟩=some (.slice none 0 0):=by rw[Zh HR9.out]; rfl
   clear hw9
   go_upto_region 5 with(fail)
   go_wp2_with (first|(refine wpList_store_row rfl 45 _ _ rfl (w.heap.size+1) #[.int .i64 0,.slice none 0 0,.slice none 0 0] rfl rfl 45 #[.int .i64 0,.slice none 0 0,.slice none 0 0] H1.out Yg rfl Yh ?_; refine(congrArg _ HE9.out).mpr ?_)|fail)
   refine bodyPost_ret (v:= .tuple #[.agg #[.int .i64 0,.slice none 0 0,.slice none 0 0],.int .i64 11]) (by simp[results,Tryz.results38,go_sem,k0,k1,k2]) rfl ⟨?_,HB9.out⟩
   exact rfl
 ·have HIN:=Zg (fun W=>QU bs.length rva size W (by omega) (by omega) (by omega))
  unfold Zdn at hR
  rw[if_neg (by omega)] at hR
  simp only at hR
  subst hR
  clear c1 c0
  go_enter Tryz.func38,Tryz.ntmps38
  go_upto_region 2 with(fail)
  refine(congrArg _ HE1.out).mpr ?_
  go_wp2_with fail
  refine(HIN.out _).mono ?_
  rintro e w' ⟨rfl,rfl⟩
  have z0:w1.cell? ⟨w.heap.size+2,0,none⟩=some (.int .i64 0):=by rw[Zh H2.out]; rfl
  have z1:w1.cell? ⟨w.heap.size+2,1,none⟩=some (.slice none 0 0):=by rw[Zh H2.out]; rfl
  have z2:w1.cell? ⟨w.heap.size+2,2,none⟩=some (.slice none 0 0):=by rw[Zh H2.out]; rfl
  obtain⟨w9,hw9⟩: ∃ w9,w1.setRow (w.heap.size+1) #[.int .i64 0,.slice none 0 0,.slice none 0 0]=w9:=⟨_,rfl⟩
  have HE9:=Zg hw9
  have HR9:=Zg (show w9.heap[w.heap.size+1]? =some (.cells #[.int .i64 0,.slice none 0 0,.slice none 0 0] 45 (0,0)) from by rw[←hw9]; exact setRow_heap _ _ _ _ _ _ H1.out)
  have HB9:=Zg (show Below w.heap.size w w9 from by rw[←hw9]; exact below_setRow HB.out (Nat.le_succ _) _)
  have k0:w9.cell? ⟨w.heap.size+1,0,none⟩=some (.int .i64 0):=by rw[Zh HR9.out]; rfl
  have k1:w9.cell? ⟨w.heap.size+1,1,none⟩=some (.slice none 0 0):=by rw[Zh HR9.out]; rfl
  have k2:w9.cell? ⟨w.heap.size+1,2,none⟩=some (.slice none 0 0):=by rw[Zh HR9.out]; rfl
  clear hw9
  go_upto_region 5 with(fail)
  go_wp2_with (first|(refine wpList_store_row rfl 45 _ _ rfl (w.heap.size+1) #[.int .i64 0,.slice none 0 0,.slice none 0 0] rfl rfl 45 #[.int .i64 0,.slice none 0 0,.slice none 0 0] H1.out Yg rfl Yh ?_; refine(congrArg _ HE9.out).mpr ?_)|fail)
  refine bodyPost_ret (v:= .tuple #[.agg #[.int .i64 0,.slice none 0 0,.slice none 0 0],.int .i64 11]) (by simp[results,Tryz.results38,go_sem,k0,k1,k2]) rfl ⟨?_,HB9.out⟩
  exact rfl
end Go.Proofs.YtplgdpjbkdagfaaGreat
