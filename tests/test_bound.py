import itertools
import unittest

from eightbytes.refs import bound, look, move, root
from tests.reference import grain, parts, reference, scattered, stretch

LAST = 2 ** 32 - 1
TOP = 255 * 2 ** 24


def rooted(address, rights=0):
    return reference(address=address, upper=255, lower=0, power=15, rights=rights)


def told(address, n):
    """The least power, and the rounded stretch in grains; None if there is no such power."""
    for power in range(16):
        size = grain(power)
        first = address // size
        behind = -(-(address + n) // size)
        if behind - first <= 255:
            return power, first, behind
    return None


class BoundOrdinary(unittest.TestCase):
    def test_a_few_bytes(self):
        self.assertEqual(bound(rooted(1000, 5), 1, 20, 0), [1, reference(1000, 0xFC, 0xE8, 0, 0, 5)])
        self.assertEqual(bound(rooted(1000, 5), 1, 20, 1), [1, reference(1000, 0xFC, 0xE8, 0, 0, 5)])

    def test_a_written_number(self):
        self.assertEqual(bound(root(511)[1], 1, 1, 1), [1, 0xFF80_0001_0000_0000])
        self.assertEqual(bound(rooted(0x12345678), 1, 0x1000, 0), [1, 0x0005_B334_1234_5678])

    def test_a_stretch_within_a_bounded_one(self):
        v = reference(address=0x540, upper=0x60, lower=0x50, power=4, rights=3)
        self.assertEqual(stretch(v), (0x500, 0x600))
        self.assertEqual(bound(v, 1, 0xC0, 1), [1, reference(0x540, 0x00, 0x40, 0, 0, 3)])


class BoundHowMany(unittest.TestCase):
    def test_n_0_is_v_and_0(self):
        for v in (0, rooted(0), rooted(1000, 511), reference(300, 60, 40), 2 ** 64 - 1):
            for good, just in itertools.product((0, 1), (0, 1)):
                self.assertEqual(bound(v, good, 0, just), [0, v])

    def test_1(self):
        self.assertEqual(bound(rooted(0), 1, 1, 1), [1, reference(0, 1, 0, 0)])
        self.assertEqual(bound(rooted(255), 1, 1, 1), [1, reference(255, 0, 255, 0)])
        self.assertEqual(bound(rooted(256), 1, 1, 1), [1, reference(256, 1, 0, 0)])

    def test_255(self):
        self.assertEqual(bound(rooted(0), 1, 255, 1), [1, reference(0, 255, 0, 0)])
        self.assertEqual(bound(rooted(1), 1, 255, 1), [1, reference(1, 0, 1, 0)])
        self.assertEqual(bound(rooted(0xABCD), 1, 255, 1), [1, reference(0xABCD, 0xCC, 0xCD, 0)])

    def test_up_to_255_bytes_are_bounded_just_so_anywhere(self):
        for n, address in itertools.product(range(1, 256), (0, 1, 77, 255, 256, 0x1234567, TOP - 255)):
            number, v = bound(rooted(address), 1, n, 1)
            self.assertEqual((number, stretch(v)), (1, (address, address + n)))

    def test_256(self):
        self.assertEqual(bound(rooted(0), 1, 256, 1), [1, reference(0, 128, 0, 1)])
        self.assertEqual(bound(rooted(2), 1, 256, 1), [1, reference(2, 129, 1, 1)])
        self.assertEqual(bound(rooted(1), 1, 256, 1), [0, reference(1, 129, 0, 1)])
        self.assertEqual(bound(rooted(1), 1, 256, 0), [1, reference(1, 129, 0, 1)])

    def test_255_grains_and_one_byte_more(self):
        for power in range(14):
            size = 2 ** power
            self.assertEqual(bound(rooted(0), 1, 255 * size, 1), [1, reference(0, 255, 0, power)])
            self.assertEqual(bound(rooted(0), 1, 255 * size + 1, 0), [1, reference(0, 128, 0, power + 1)])
            # 256 bytes alone are whole grains of the next power.
            self.assertEqual(bound(rooted(0), 1, 255 * size + 1, 1)[0], 1 if power == 0 else 0)

    def test_14_and_15(self):
        self.assertEqual(bound(rooted(0), 1, 255 * 2 ** 14, 1), [1, reference(0, 255, 0, 14)])
        self.assertEqual(bound(rooted(0), 1, 255 * 2 ** 14 + 1, 0), [1, reference(0, 1, 0, 15)])
        self.assertEqual(bound(rooted(0), 1, 256 * 2 ** 14, 0), [1, reference(0, 1, 0, 15)])
        self.assertEqual(bound(rooted(0), 1, 256 * 2 ** 14, 1), [0, reference(0, 1, 0, 15)])
        self.assertEqual(bound(rooted(2 ** 24), 1, 2 ** 24, 1), [1, reference(2 ** 24, 2, 1, 15)])
        self.assertEqual(bound(rooted(2 ** 24 - 1), 1, 2 ** 24 + 2, 0), [1, reference(2 ** 24 - 1, 3, 0, 15)])

    def test_14_that_does_not_do_as_both_ends_are_rounded(self):
        # 255 grains of 2^14 by length, 256 by place.
        self.assertEqual(bound(rooted(1), 1, 255 * 2 ** 14, 0), [1, reference(1, 1, 0, 15)])
        self.assertEqual(bound(rooted(1), 1, 255 * 2 ** 14 - 1, 0), [1, reference(1, 255, 0, 14)])

    def test_the_whole(self):
        self.assertEqual(bound(rooted(0), 1, TOP, 1), [1, reference(0, 255, 0, 15)])
        self.assertEqual(bound(rooted(0), 1, TOP - 1, 0), [1, reference(0, 255, 0, 15)])
        self.assertEqual(bound(rooted(0), 1, TOP - 1, 1), [0, reference(0, 255, 0, 15)])

    def test_no_power_does(self):
        given = (
            (0, TOP + 1), (0, LAST), (1, TOP), (2 ** 24 - 1, TOP), (2 ** 24 - 1, TOP - 2 ** 24 + 2),
            (2 ** 24, TOP + 1), (LAST, LAST), (LAST, TOP),
        )
        for address, n in given:
            for good, just, seal in itertools.product((0, 1), (0, 1), (0, 3)):
                v = reference(address, 255, 0, 15, seal, 9)
                self.assertEqual(bound(v, good, n, just), [0, v])

    def test_the_greatest_n_that_does(self):
        self.assertEqual(bound(rooted(2 ** 24), 1, TOP, 0), [0, reference(2 ** 24, 0, 1, 15)])
        self.assertEqual(bound(rooted(LAST), 1, TOP - 2 ** 24 + 1, 0), [0, reference(LAST, 254, 255, 15)])
        self.assertEqual(bound(rooted(LAST), 1, TOP - 2 ** 24 + 2, 0), [0, rooted(LAST)])


class BoundRounding(unittest.TestCase):
    def test_one_grain_more_as_both_ends_are_rounded(self):
        # 510 bytes are 255 grains of 2, but from an odd address they touch 256 of them.
        self.assertEqual(bound(rooted(1000), 1, 510, 0), [1, reference(1000, 243, 244, 1)])
        self.assertEqual(bound(rooted(1001), 1, 510, 0), [1, reference(1001, 122, 250, 2)])
        for power in range(1, 14):
            size = 2 ** power
            self.assertEqual(bound(rooted(size - 1), 1, 254 * size + 1, 0)[1], reference(size - 1, 255, 0, power))
            self.assertEqual(bound(rooted(size - 1), 1, 254 * size + 2, 0)[1],
                             reference(size - 1, 128, 0, power + 1))

    def test_address_that_is_no_multiple_of_the_grain(self):
        number, v = bound(rooted(1003, 2), 1, 1000, 0)
        self.assertEqual((number, v), (1, reference(1003, 0xF5, 0xFA, 2, 0, 2)))
        self.assertEqual(look(v), [0, 1000, 1004, 1003, 0, 2, 2])

    def test_just_with_and_without_rounding(self):
        # 1000 bytes and a few more or less take grains of 4.
        given = (
            (1000, 1000, 1000, 2000, 1),
            (1001, 999, 1000, 2000, 0),
            (1000, 999, 1000, 2000, 0),
            (1001, 998, 1000, 2000, 0),
            (1003, 1000, 1000, 2004, 0),
            (1004, 1000, 1004, 2004, 1),
        )
        for address, n, begin, end, exact in given:
            with self.subTest(address=address, n=n):
                number, v = bound(rooted(address), 1, n, 0)
                self.assertEqual((number, stretch(v)), (1, (begin, end)))
                number, v = bound(rooted(address), 1, n, 1)
                self.assertEqual((number, stretch(v)), (exact, (begin, end)))

    def test_marks_that_go_round_at_256(self):
        self.assertEqual(bound(rooted(0x3F8), 1, 8, 1), [1, reference(0x3F8, 0x00, 0xF8, 0)])
        self.assertEqual(bound(rooted(0x3F8), 1, 0x10, 1), [1, reference(0x3F8, 0x08, 0xF8, 0)])
        self.assertEqual(bound(rooted(0x400), 1, 0xFF, 1), [1, reference(0x400, 0xFF, 0x00, 0)])
        self.assertEqual(bound(rooted(0x7F0), 1, 0x300, 1), [1, reference(0x7F0, 0xBC, 0xFC, 2)])
        self.assertEqual(stretch(bound(rooted(255 * 2 ** 14), 1, 2 * 2 ** 14, 1)[1]), (255 * 2 ** 14, 257 * 2 ** 14))

    def test_an_end_at_2_to_the_32(self):
        v = reference(LAST, 0, 0xF0, 0, 0, 1)
        self.assertEqual(stretch(v), (2 ** 32 - 16, 2 ** 32))
        self.assertEqual(bound(v, 1, 1, 1), [1, reference(LAST, 0, 255, 0, 0, 1)])
        self.assertEqual(bound(v, 1, 2, 0), [0, reference(LAST, 1, 255, 0, 0, 1)])
        v = reference(2 ** 32 - 2 ** 24, 0, 255, 15)
        self.assertEqual(bound(v, 1, 2 ** 24, 1), [1, v])
        self.assertEqual(bound(v, 1, 2 ** 24 + 1, 0), [0, reference(2 ** 32 - 2 ** 24, 1, 255, 15)])
        self.assertEqual(bound(v, 1, 255, 1), [1, reference(2 ** 32 - 2 ** 24, 255, 0, 0)])


class BoundRefusals(unittest.TestCase):
    def test_not_good(self):
        for just in (0, 1):
            self.assertEqual(bound(rooted(1000, 5), 0, 20, just), [0, reference(1000, 0xFC, 0xE8, 0, 0, 5)])

    def test_sealed_keeps_seal_and_rights(self):
        for seal, good, just in itertools.product(range(1, 8), (0, 1), (0, 1)):
            v = reference(1000, 255, 0, 15, seal, 0x1A5)
            self.assertEqual(bound(v, good, 20, just), [0, reference(1000, 0xFC, 0xE8, 0, seal, 0x1A5)])

    def test_v_ends_before(self):
        v = reference(address=300, upper=60, lower=40, rights=1)
        self.assertEqual(stretch(v), (296, 316))
        self.assertEqual(bound(v, 1, 16, 1), [1, reference(300, 60, 44, 0, 0, 1)])
        self.assertEqual(bound(v, 1, 17, 0), [0, reference(300, 61, 44, 0, 0, 1)])
        self.assertEqual(bound(v, 1, 255, 0), [0, reference(300, 43, 44, 0, 0, 1)])

    def test_v_ends_at_its_address(self):
        v = reference(address=316, upper=60, lower=40)
        self.assertEqual(bound(v, 1, 1, 0), [0, reference(316, 61, 60, 0)])

    def test_an_address_behind_the_end(self):
        v = reference(address=500, upper=60, lower=40)
        self.assertEqual(bound(v, 1, 1, 0), [0, reference(500, 245, 244, 0)])

    def test_an_empty_stretch(self):
        v = reference(address=40, upper=40, lower=40)
        self.assertEqual(bound(v, 1, 1, 0), [0, reference(40, 41, 40, 0)])

    def test_an_address_below_the_lower_mark(self):
        v = reference(address=0x31F, upper=0x30, lower=0x20)
        self.assertEqual(bound(v, 1, 1, 0), [0, reference(0x31F, 0x20, 0x1F, 0)])

    def test_upper_below_lower(self):
        v = reference(address=0x403, upper=0x08, lower=0xF0)
        self.assertEqual(bound(v, 1, 5, 1), [1, reference(0x403, 0x08, 0x03, 0)])
        self.assertEqual(bound(v, 1, 6, 1), [0, reference(0x403, 0x09, 0x03, 0)])

    def test_a_beginning_below_0(self):
        v = reference(address=2, upper=5, lower=250)
        self.assertEqual(stretch(v), (-6, 5))
        self.assertEqual(bound(v, 1, 3, 1), [1, reference(2, 5, 2, 0)])
        self.assertEqual(bound(v, 1, 4, 1), [0, reference(2, 6, 2, 0)])

    def test_after_a_move_outside(self):
        v = bound(rooted(1000), 1, 20, 1)[1]
        v = move(v, 1, 1021)[1]
        self.assertEqual(bound(v, 1, 1, 1)[0], 0)


class BoundMany(unittest.TestCase):
    def check(self, v, good, n, just):
        address, upper, lower, power, seal, rights = parts(v)
        found = told(address, n)
        if n == 0 or found is None:
            self.assertEqual(bound(v, good, n, just), [0, v])
            return
        power, first, behind = found
        begin, end = first * grain(power), behind * grain(power)
        number, bounded = bound(v, good, n, just)
        self.assertEqual(parts(bounded), (address, behind % 256, first % 256, power, seal, rights))
        self.assertEqual(stretch(bounded), (begin, end))
        held = stretch(v)[0] <= address and address + n <= stretch(v)[1]
        exact = (begin, end) == (address, address + n)
        stays = good == 1 and seal == 0 and held and (just == 0 or exact)
        self.assertEqual(number, 1 if stays else 0)

    def test_mixed_edges(self):
        addresses = (0, 1, 255, 256, 2 ** 14 + 1, 2 ** 22, 2 ** 24 - 1, TOP, LAST)
        sizes = (0, 1, 2, 254, 255, 256, 510, 511, 255 * 2 ** 14, 2 ** 22, TOP - 1, TOP, TOP + 1, LAST)
        marks = ((255, 0), (0, 1), (3, 3), (4, 250))
        for address, n, (upper, lower), power in itertools.product(addresses, sizes, marks, (0, 1, 14, 15)):
            for seal, good, just in ((0, 1, 0), (0, 1, 1), (0, 0, 0), (5, 1, 1)):
                self.check(reference(address, upper, lower, power, seal, 300), good, n, just)

    def test_scattered(self):
        for v in scattered(1500):
            unsealed = v & ~(7 << 52)
            left = stretch(v)[1] - parts(v)[0]
            for n in (left - 1, left, left + 1, left // 2, v >> 32, v >> 45):
                for good, just in itertools.product((0, 1), (0, 1)):
                    self.check(v, good, max(n, 0), just)
                    self.check(unsealed, good, max(n, 0), just)

    def test_b_no_wider_than_need_be(self):
        for v in scattered(500):
            address, n = v % 2 ** 32, (v >> 32) >> (v % 32)
            if n == 0 or told(address, n) is None:
                continue
            begin, end = stretch(bound(v, 1, n, 0)[1])
            self.assertTrue(begin <= address and address + n <= end)
            # Of each power the narrowest stretch around the asked one, where a reference can tell it.
            for power in range(16):
                size = grain(power)
                first, behind = address // size * size, -(-(address + n) // size) * size
                if behind - first <= 255 * size:
                    self.assertTrue(first <= begin and end <= behind)


if __name__ == "__main__":
    unittest.main()
